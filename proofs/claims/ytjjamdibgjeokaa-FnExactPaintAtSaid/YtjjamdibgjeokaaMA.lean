/- Texts of mine in one file: Base, Rd, IntR, Frame, Bk, RectC, PixM, PixC, OriM, IsectP, Blk4, IsectI, IsectS, HasC, PixS, PixI, RectM, Rds, GridI, AppN, SclM, PixA, PixB, OverS, OverI, CurC, RectD, BoundI, FormA. No statement is proved here. -/
import Derived.Test.YtjjamdibgjeokaaProg
import Derived.WalkKit
import Derived.ProofKit
import Derived.OpenShut
import Derived.WalkLawsBesides
import Derived.WalkSpells
import Derived.ShutString
import Derived.ChangeOld
import Derived.Below
import Derived.Lib.Hide
import Derived.BigQuiet
import Derived.Deep.QuietTactic
import Derived.Maps.AppendAt
import Derived.Deep.OwnRows
import Derived.Handy
import Derived.Deep.Draws
import Derived.Deep.MidRow
import Derived.Deep.WholeRow
import Derived.Laws.BitsAllLaws
import Derived.Lib.QuoteBits
import Derived.Deep.RegionHeld3
import Derived.Deep.DeepCutAuto
import Derived.Deep.LoopGhost
import Derived.Laws.AppendOwn
import Derived.OwnWalk
import Derived.Deep.AppendLies
import Derived.Deep.Onto
import Derived.ChangeKeysEq
import Derived.Deep.RegionWith
import Derived.Great.BuildSlice
namespace Go.Proofs.Ytjjamdibgjeokaa
open Go.RowKit
theorem ret_int {k : IntKind} {a b : Int} (h : a = b) : Ending.returned (.int k a) = .returned (.int k b) := by rw [h]
theorem ret_bool {a b : Bool} (h : a = b) : Ending.returned (.bool a) = .returned (.bool b) := by rw [h]
theorem wf_bd {a : Int} (h : (Lit.int .i64 a).wf = true) : -9223372036854775808 ≤ a ∧ a ≤ 9223372036854775807 := by
  simpa [Lit.wf, IntKind.min, IntKind.max, IntKind.signed, IntKind.bits] using h
/-- A slice of integers that came in: it is nil, or it leads to a row of 'cap' cells, the numbers 'zs' (the first 'len' are its elements), each fitting its kind. -/
def IsRow (k : IntKind) (w : World) (a : Option Addr) (len cap : Nat) (zs : List Int) : Prop :=
  (a = none ∧ len = 0 ∧ cap = 0 ∧ zs = []) ∨
  ∃ x, a = some x ∧ len ≤ cap ∧ cap ≤ maxLen ∧ zs.length = cap ∧ (∀ i, i < zs.length → w.cell? (x.add i) = some (.int k (zs.getD i 0))) ∧ ∀ n ∈ zs, (Lit.int k n).wf = true
end Go.Proofs.Ytjjamdibgjeokaa
namespace Go.Proofs.Ytjjamdibgjeokaa
open Go.RowKit
theorem add_block (a : Addr) (n : Nat) : (a.add n).block = a.block := by unfold Addr.add; split <;> rfl
/-- The slice v has n elements of one cell each; they hold xs. -/
def Rd (w : World) (v : Value) (n : Nat) (xs : List Value) : Prop :=
  xs.length = n ∧ n ≤ maxLen ∧ ∃ A c, v = .slice A n c ∧ (0 < n → ∃ a, A = some a ∧ ∀ j u, xs[j]? = some u → w.cell? (a.add j) = some u)
theorem Rd.of_own {w : World} {B : Nat} {e : TypeId} {v : Value} {n : Nat} {xs : List Value} (h : w.ownsRow B e 1 v n xs) : Rd w v n xs := by
  have hl : xs.length = n := by have := h.1; omega
  rcases h.2 with ⟨rfl, rfl⟩ | ⟨g, cap, cur, rfl, hg, hh, hn, hc, hs, ht⟩
  · exact ⟨hl, by unfold maxLen; omega, none, 0, rfl, fun h0 => by omega⟩
  · exact ⟨hl, by omega, _, _, rfl, fun h0 => ⟨_, rfl, fun j u hu => h.cells (g := g) rfl j u hu⟩⟩
theorem Rd.form {w : World} {v : Value} {n : Nat} {xs : List Value} (h : Rd w v n xs) : ∃ A c, v = .slice A n c := by
  obtain ⟨_, _, A, c, rfl, _⟩ := h; exact ⟨A, c, rfl⟩
/-- A reading stands while the slice's block stands. -/
theorem Rd.kept {w w' : World} {v : Value} {n : Nat} {xs : List Value} (h : Rd w v n xs) (hs : ∀ g, v.ownBlock = some g → g < w.heap.size → w'.heap[g]? = w.heap[g]?) : Rd w' v n xs := by
  obtain ⟨hl, hm, A, c, rfl, hc⟩ := h
  refine ⟨hl, hm, A, c, rfl, fun h0 => ?_⟩
  obtain ⟨a, rfl, hd⟩ := hc h0
  refine ⟨a, rfl, fun j u hu => ?_⟩
  have h1 := hd j u hu
  have hlt := World.block_lt_of_cell? w _ h1
  rw [add_block] at hlt
  rw [← h1]
  exact World.cell?_of_block (by rw [add_block]; exact hs a.block rfl hlt)
theorem Rd.drewN {w : World} {v : Value} {n : Nat} {xs : List Value} (h : Rd w v n xs) (k : Nat) : Rd (w.drewN k) v n xs := h
theorem Rd.below {w w' : World} {v : Value} {n B : Nat} {xs : List Value} (h : Rd w v n xs) (hb : Below B w w') (hB : ∀ g, v.ownBlock = some g → g < w.heap.size → g < B) : Rd w' v n xs :=
  h.kept fun g hg hl => hb.block g (hB g hg hl)
theorem Rd.grown {w w' : World} {v : Value} {n : Nat} {row : Option Nat} {xs : List Value} (h : Rd w v n xs) (hb : w.grownBy w' row) (hr : ∀ g, v.ownBlock = some g → some g ≠ row) : Rd w' v n xs :=
  h.kept fun g hg hl => hb.block g hl (hr g hg)
/-- The cell of element k. -/
theorem Rd.at_ {w : World} {A : Option Addr} {c n k : Nat} {xs : List Value} (h : Rd w (.slice A n c) n xs) (hk : k < n) : ∃ a u, A = some a ∧ xs[k]? = some u ∧ w.cell? (a.add k) = some u := by
  obtain ⟨hl, hm, A', c', he, hc⟩ := h
  injection he with e1 e2 e3
  subst e1
  obtain ⟨a, rfl, hd⟩ := hc (by omega)
  exact ⟨a, xs[k]'(by omega), rfl, List.getElem?_eq_getElem _, hd k _ (List.getElem?_eq_getElem _)⟩
theorem Rd.len {w : World} {v : Value} {n : Nat} {xs : List Value} (h : Rd w v n xs) : xs.length = n ∧ n ≤ maxLen := ⟨h.1, h.2.1⟩
end Go.Proofs.Ytjjamdibgjeokaa
namespace Go.Proofs.Ytjjamdibgjeokaa
open Go.RowKit
def intCells (L : List Int) : List Value := L.map (Value.int .i64)
theorem intCells_length (L : List Int) : (intCells L).length = L.length := by simp [intCells]
theorem intCells_get (L : List Int) (k : Nat) : (intCells L)[k]? = (L[k]?).map (Value.int .i64) := by simp [intCells]
theorem Rd.of_row {w : World} {a : Option Addr} {len cap : Nat} {zs : List Int} (h : IsRow .i64 w a len cap zs) : Rd w (.slice a len cap) (zs.take len).length (intCells (zs.take len)) := by
  rcases h with ⟨rfl, rfl, rfl, rfl⟩ | ⟨x, rfl, h1, h2, h3, h4, h5⟩
  · exact ⟨rfl, by simp, none, 0, rfl, fun h => by simp at h⟩
  · have hl : (zs.take len).length = len := by rw [List.length_take]; omega
    rw [hl]
    refine ⟨by rw [intCells_length, hl], by omega, some x, cap, rfl, fun h0 => ⟨x, rfl, fun j u hu => ?_⟩⟩
    rw [intCells_get] at hu
    obtain ⟨z, hz, rfl⟩ := Option.map_eq_some_iff.1 hu
    have hj : j < len := by have := (List.getElem?_eq_some_iff.1 hz).1; omega
    rw [List.getElem?_take_of_lt hj] at hz
    rw [h4 j (by omega), List.getD_eq_getElem?_getD, hz]
    rfl
theorem Rd.int_at {w : World} {A : Option Addr} {c n k : Nat} {L : List Int} (h : Rd w (.slice A n c) n (intCells L)) (hk : k < n) : ∃ a x, A = some a ∧ L[k]? = some x ∧ w.cell? (a.add k) = some (.int .i64 x) := by
  obtain ⟨a, u, e, hu, hc⟩ := h.at_ hk
  rw [intCells_get] at hu
  obtain ⟨x, hx, rfl⟩ := Option.map_eq_some_iff.1 hu
  exact ⟨a, x, e, hx, hc⟩
theorem Rd.call {w w' : World} {v : Value} {n : Nat} {xs : List Value} (h : Rd w v n xs) (hb : Below w.heap.size w w') : Rd w' v n xs := h.below hb fun _ _ hl => hl
theorem Rd.alloc {w : World} {v : Value} {n : Nat} {xs : List Value} (h : Rd w v n xs) (o : Obj) : Rd (w.alloc o) v n xs := h.kept fun g _ hl => Below.heap_alloc w o g hl
theorem Rd.of_rowIs {w : World} {g t n cap : Nat} {f : Nat → Value} {L : List Int} (h : w.rowIs g t n f) (hm : n ≤ maxLen) (hL : L.length = n) (hf : ∀ j x, L[j]? = some x → f j = .int .i64 x) : Rd w (.slice (some ⟨g, 0, none⟩) n cap) n (intCells L) := by
  refine ⟨by rw [intCells_length, hL], hm, _, _, rfl, fun h0 => ⟨_, rfl, fun j u hu => ?_⟩⟩
  rw [intCells_get] at hu
  obtain ⟨x, hx, rfl⟩ := Option.map_eq_some_iff.1 hu
  have hj : j < n := by have := (List.getElem?_eq_some_iff.1 hx).1; omega
  rw [← hf j x hx, ← h.cell hj]
  unfold Addr.add
  split
  · rename_i e; rw [e]
  · simp
theorem infoInt : (Try.prog.info? 3).map (fun i => (i.zero, i.size, i.bytes)) = some (some (.int .i64 0), 1, 8) := by kernel_rfl
/-- What toIntS answers. -/
def ToIS (L : List Int) (w : World) (e : Ending) (w' : World) : Prop :=
  ∃ v, e = .returned v ∧ Rd w' v L.length (intCells L) ∧ Below w.heap.size w w'
set_option maxHeartbeats 1000000 in
theorem toIS (v : Value) (L : List Int) (w : World) (hm : L.length ≤ 1048576) (h : Rd w v L.length (intCells L)) : Calls Try.prog 122 #[v] w (ToIS L w) := by
  obtain ⟨A, c, rfl⟩ := h.form
  obtain ⟨n, hn⟩ : ∃ n, n = L.length := ⟨_, rfl⟩
  rw [← hn] at hm h
  have Hn := Lib.hid hn
  have H := Lib.hid h
  rw [← hn]
  have hmk := fun W => run_make_row' (P := Try.prog) 30 3 (.int .i64 0) 8 Try.underlying30 infoInt rfl .i64 .i64 n (by omega) (by omega) W
  clear h hn
  go_enter Try.func122, Try.ntmps122
  go_wp2_with fail
  go_loopw [4] (fun i wr => ∃ k : Nat, k ≤ n ∧ i = .int .i64 k ∧ wr.rowIs w.heap.size 3 n (fun j => if j < k then .int .i64 (L.getD j 0) else .int .i64 0) ∧ Below w.heap.size w wr) (fun i _ => n - (intOf i).toNat)
  case atStart => exact ⟨0, Nat.zero_le _, rfl, (World.rowIs_made _ _ _ _).congr (fun j hj => by simp), (Below.refl _ _).alloc (Nat.le_refl _) _⟩
  case round =>
    obtain ⟨k, hk, rfl, hrow, hb⟩ := hrel
    clear hmk
    have Hrow := Lib.hid hrow
    have Hb := Lib.hid hb
    clear hrow hb
    by_cases hlt : k < n
    · obtain ⟨a, x, rfl, hx, hc⟩ := (H.out.call Hb.out).int_at hlt
      have Hx := Lib.hid hx
      clear hx
      have k0 : (0 : Int) ≤ (k : Int) := by omega
      have k1 : (k : Int) < (n : Int) := by omega
      have hcl0 : wr.cell? ⟨w.heap.size, k, none⟩ = some (.int .i64 0) := by have := Hrow.out.cell hlt; simpa using this
      have hfz0 : wr.frozen? ⟨w.heap.size, k, none⟩ = false := Hrow.out.frozen k
      go_wp2_with fail
      go_roundw
      case rel =>
        refine ⟨k + 1, by omega, by go_num, ?_, Hb.out.setCell (by simp) _⟩
        refine (Hrow.out.set k _).congr fun j hj => ?_
        by_cases e : j = k
        · subst e
          rw [if_pos rfl, if_pos (by omega), List.getD_eq_getElem?_getD, Hx.out]
          rfl
        · rw [if_neg e]
          by_cases e2 : j < k
          · rw [if_pos e2, if_pos (by omega)]
          · rw [if_neg e2, if_neg (by omega)]
      case measure => simp [intOf]; omega
    · obtain rfl : k = n := by omega
      go_wp2_with fail
      go_ret
      have hR : Rd wr (.slice (some ⟨w.heap.size, 0, none⟩) k k) L.length (intCells L) := by
        rw [← Hn.out]
        refine Rd.of_rowIs Hrow.out (by unfold maxLen; omega) Hn.out.symm fun j x hx => ?_
        have hj : j < k := by have := (List.getElem?_eq_some_iff.1 hx).1; rw [Hn.out]; exact this
        rw [if_pos hj, List.getD_eq_getElem?_getD, hx]
        rfl
      exact ⟨_, rfl, hR, Hb.out⟩
set_option maxHeartbeats 1000000 in
theorem eqIS_same (v u : Value) (L : List Int) (w : World) (hv : Rd w v L.length (intCells L)) (hu : Rd w u L.length (intCells L)) :
    Calls Try.prog 69 #[v, u] w fun e w' => e = .returned (.bool true) ∧ ∃ q, w' = w.drewN q := by
  obtain ⟨A, c, rfl⟩ := hv.form
  obtain ⟨A', c', rfl⟩ := hu.form
  have hn1 : L.length ≤ 9223372036854775807 := by have := hv.len.2; unfold maxLen at this; omega
  obtain ⟨n, hn⟩ : ∃ n, n = L.length := ⟨_, rfl⟩
  rw [← hn] at hn1 hv hu ⊢
  have Hv := Lib.hid hv
  have Hu := Lib.hid hu
  clear hv hu hn
  go_enter Try.func69, Try.ntmps69
  go_wp2_with fail
  go_loopw [5] (fun i wr => ∃ k : Nat, k ≤ n ∧ i = .int .i64 k ∧ ∃ q, wr = w.drewN q) (fun i _ => n - (intOf i).toNat)
  case atStart => exact ⟨0, Nat.zero_le _, rfl, 0, rfl⟩
  case round =>
    obtain ⟨k, hk, rfl, q, rfl⟩ := hrel
    by_cases hlt : k < n
    · obtain ⟨a, x, rfl, hx, hcx⟩ := Hv.out.int_at hlt
      obtain ⟨a', y, rfl, hy, hcy⟩ := Hu.out.int_at hlt
      rw [hx] at hy
      injection hy with hy
      subst hy
      clear hx
      have k0 : (0 : Int) ≤ (k : Int) := by omega
      have k1 : (k : Int) < (n : Int) := by omega
      go_wp2_with fail
      go_quiet (fail)
      go_wp2_with fail
      rename_i nq
      go_roundw
      case rel => exact ⟨k + 1, by omega, by go_num, _, rfl⟩
      case measure => simp [intOf]; omega
    · obtain rfl : k = n := by omega
      go_wp2_with fail
      go_ret
      exact ⟨rfl, _, rfl⟩
end Go.Proofs.Ytjjamdibgjeokaa
namespace Go.Proofs.Ytjjamdibgjeokaa
open Go.RowKit
theorem own_below {w w' : World} {B B' : Nat} {e : TypeId} {size : Nat} {v : Value} {n : Nat} {xs : List Value} (h : w.ownsRow B e size v n xs) (hb : Below B' w w') (hB : w.heap.size ≤ B') : w'.ownsRow B e size v n xs :=
  h.kept (row := none) ⟨hb.os, hb.tape, hb.output, hb.size, fun k hk _ => hb.block k (by omega)⟩ (by cases hv : v.ownBlock <;> simp)
theorem grown_below {a w w' : World} {row : Option Nat} (h : a.grownBy w row) (hb : Below w.heap.size w w') : a.grownBy w' row :=
  h.trans ⟨hb.os, hb.tape, hb.output, hb.size, fun k hk _ => hb.block k hk⟩
theorem own_drewN {w : World} {B : Nat} {e : TypeId} {size : Nat} {v : Value} {n : Nat} {xs : List Value} (h : w.ownsRow B e size v n xs) (q : Nat) : (w.drewN q).ownsRow B e size v n xs := h
theorem below_drewN {B : Nat} {a w : World} (h : Below B a w) (q : Nat) : Below B a (w.drewN q) := ⟨h.os, h.tape, h.output, h.size, h.block⟩
end Go.Proofs.Ytjjamdibgjeokaa
namespace Go.Proofs.Ytjjamdibgjeokaa
open Go.RowKit
/-- Block g holds these cells. -/
def BkAt (w : World) (g : Nat) (t : TypeId) (cs : Array Value) : Prop := w.heap[g]? = some (.cells cs t (0, 0))
theorem BkAt.lt {w : World} {g : Nat} {t : TypeId} {cs : Array Value} (h : BkAt w g t cs) : g < w.heap.size := (Array.getElem?_eq_some_iff.1 h).1
theorem BkAt.cell {w : World} {g : Nat} {t : TypeId} {cs : Array Value} (h : BkAt w g t cs) (i : Nat) {v : Value} (hv : cs[i]? = some v) : w.cell? ⟨g, i, none⟩ = some v := by
  unfold BkAt at h; simp [World.cell?, h, hv]
theorem BkAt.frozen {w : World} {g : Nat} {t : TypeId} {cs : Array Value} (h : BkAt w g t cs) (i : Nat) : w.frozen? ⟨g, i, none⟩ = false := by
  unfold BkAt at h; simp [World.frozen?, h]
theorem BkAt.below {w w' : World} {g B : Nat} {t : TypeId} {cs : Array Value} (h : BkAt w g t cs) (hb : Below B w w') (hg : g < B) : BkAt w' g t cs := (hb.block g hg).trans h
theorem BkAt.call {w w' : World} {g : Nat} {t : TypeId} {cs : Array Value} (h : BkAt w g t cs) (hb : Below w.heap.size w w') : BkAt w' g t cs := h.below hb h.lt
theorem BkAt.alloc {w : World} {g : Nat} {t : TypeId} {cs : Array Value} (h : BkAt w g t cs) (o : Obj) : BkAt (w.alloc o) g t cs := (Below.heap_alloc w o g h.lt).trans h
theorem BkAt.new (w : World) (t : TypeId) (cs : Array Value) : BkAt (w.alloc (.cells cs t)) w.heap.size t cs := heap_alloc_new w _
theorem BkAt.newAt {w : World} {g : Nat} (h : w.heap.size = g) (t : TypeId) (cs : Array Value) : BkAt (w.alloc (.cells cs t)) g t cs := h ▸ BkAt.new w t cs
theorem BkAt.drew {w : World} {g : Nat} {t : TypeId} {cs : Array Value} (h : BkAt w g t cs) : BkAt w.drew g t cs := h
theorem BkAt.drewN {w : World} {g : Nat} {t : TypeId} {cs : Array Value} (h : BkAt w g t cs) (n : Nat) : BkAt (w.drewN n) g t cs := h
theorem BkAt.grown {w w' : World} {g : Nat} {t : TypeId} {cs : Array Value} {row : Option Nat} (h : BkAt w g t cs) (hb : w.grownBy w' row) (hr : some g ≠ row) : BkAt w' g t cs := (hb.block g h.lt hr).trans h
theorem BkAt.far {w : World} {g : Nat} {t : TypeId} {cs : Array Value} (h : BkAt w g t cs) {p : Addr} (hp : g ≠ p.block) (v : Value) : BkAt (w.setCell p v) g t cs := (Below.heap_setCell w p v g hp).trans h
theorem BkAt.set {w : World} {g : Nat} {t : TypeId} {cs : Array Value} (h : BkAt w g t cs) (i : Nat) (v : Value) : BkAt (w.setCell ⟨g, i, none⟩ v) g t (cs.setIfInBounds i v) := by
  unfold BkAt at *
  simp [World.setCell, Array.getElem?_modify, h]
theorem BkAt.cells4 {w : World} {g : Nat} {t : TypeId} {a b c d : Value} (h : BkAt w g t #[a, b, c, d]) :
    w.cell? ⟨g, 0, none⟩ = some a ∧ w.cell? ⟨g, 1, none⟩ = some b ∧ w.cell? ⟨g, 2, none⟩ = some c ∧ w.cell? ⟨g, 3, none⟩ = some d :=
  ⟨h.cell 0 rfl, h.cell 1 rfl, h.cell 2 rfl, h.cell 3 rfl⟩
theorem BkAt.all4 {w : World} {g : Nat} {t : TypeId} {a b c d : Value} (h : BkAt w g t #[a, b, c, d]) (a' b' c' d' : Value) :
    BkAt ((((w.setCell ⟨g, 0, none⟩ a').setCell ⟨g, 1, none⟩ b').setCell ⟨g, 2, none⟩ c').setCell ⟨g, 3, none⟩ d') g t #[a', b', c', d'] :=
  (((h.set 0 a').set 1 b').set 2 c').set 3 d'
theorem grown_setB (w : World) (g o : Nat) (v : Value) : w.grownBy (w.setCell ⟨g, o, none⟩ v) (some g) :=
  ⟨rfl, rfl, rfl, by simp, fun k _ hk => Below.heap_setCell w ⟨g, o, none⟩ v k (fun e => hk (by rw [e]))⟩
/-- A variable of a struct that comes into being, in a free order. -/
theorem wp_alloc_bk {op : Oper} {a : Act} {w : World} {K : Act → World → Prop} {Q : Exit → Act → World → Prop} (t : TypeId) (cs : Array Value) (hz : ∀ w, (zeroValue t).run Try.prog w = .ok (.agg cs) w) (ho : op.op = .alloc t) (d : Nat) (hd : op.dst = some d)
    (h : ∀ b W', Below w.heap.size w W' → BkAt W' b t cs → w.heap.size ≤ b → K (a.put (some d) (.pointer (some ⟨b, 0, none⟩))) W') : op.wp Try.prog a w K Q := by
  have h1 := h w.heap.size (w.alloc (.cells cs t)) ((Below.refl _ _).alloc (Nat.le_refl _) _) (BkAt.new w _ _) (Nat.le_refl _)
  have hz := hz w
  unfold Oper.wp execOp
  simp only [ho, Instr.alloc, Sem.run_bind, hz, Result.andThen_ok, Sem.run_pure]
  rw [← hd] at h1
  exact h1
/-- A variable of a struct is written whole. -/
theorem wp_store_bk {op : Oper} {a : Act} {w : World} {K : Act → World → Prop} {Q : Exit → Act → World → Prop} (t : TypeId) (x y : Operand) (ho : op.op = .store t x y)
    (b : Nat) (t0 : TypeId) (cs cs' : Array Value) (hsz : (Try.prog.info? t).map (·.size) = some cs'.size) (hl : cs.size = cs'.size) (h1 : cs'.all (·.oneCell') = true) (hx : a.eval x = .pointer (some ⟨b, 0, none⟩)) (hy : a.eval y = .agg cs') (hI : BkAt w b t0 cs)
    (h : ∀ W', BkAt W' b t0 cs' → w.grownBy W' (some b) → K (a.put op.dst undef) W') : op.wp Try.prog a w K Q := by
  have hs : (storeVar t ⟨b, 0, none⟩ (.agg cs')).run Try.prog w = .ok () (w.setRow b cs') := run_storeVar_row w b _ _ cs cs' hI hsz hl h1
  have h2 := h (w.setRow b cs') (setRow_heap w b _ _ t0 _ hI) ⟨rfl, rfl, rfl, by simp [World.setRow], fun k _ hk => setRow_other w b k _ (fun e => hk (by rw [e]))⟩
  unfold Oper.wp execOp
  simp only [ho, hx, hy, Instr.storeAt, Instr.sureAddr, Sem.run_bind, Sem.run_pure, Result.andThen_ok, hs]
  exact h2
/-- A struct is read whole (under with_reducible). -/
theorem wp_load_bk {op : Oper} {a : Act} {w : World} {K : Act → World → Prop} {Q : Exit → Act → World → Prop} (t : TypeId) (x : Operand) (ho : op.op = .load t x) (b : Nat) (t0 : TypeId) (cs : Array Value) (fs : Array Field) (hu : Try.prog.underlying t = some (.struct fs))
    (hsz : (Try.prog.info? t).map (·.size) = some cs.size) (hx : a.eval x = .pointer (some ⟨b, 0, none⟩)) (hI : BkAt w b t0 cs) (h : K (a.put op.dst (.agg cs)) w) : op.wp Try.prog a w K Q :=
  wp_load_row t x ho b hx _ cs _ _ hI hu rfl hsz h
end Go.Proofs.Ytjjamdibgjeokaa
namespace Go.Proofs.Ytjjamdibgjeokaa
open Go.RowKit
/-- A rectangle of four numbers. -/
structure Rc where
  x : Int
  y : Int
  w : Int
  h : Int
def Rc.ok (r : Rc) : Prop := -1000 ≤ r.x ∧ r.x ≤ 1000 ∧ -1000 ≤ r.y ∧ r.y ≤ 1000 ∧ 0 ≤ r.w ∧ r.w ≤ 1000 ∧ 0 ≤ r.h ∧ r.h ≤ 1000
theorem inI_yes (n lo hi : Int) (w : World) (h1 : lo ≤ n) (h2 : n ≤ hi) :
    Calls Try.prog 97 #[.int .i64 n, .int .i64 lo, .int .i64 hi] w fun e w' => e = .returned (.bool true) ∧ w = w' := by
  go_enter Try.func97, Try.ntmps97
  go_wp2
  go_ret
  exact ⟨rfl, rfl⟩
theorem inI_no (n lo hi : Int) (w : World) (h : n < lo ∨ hi < n) :
    Calls Try.prog 97 #[.int .i64 n, .int .i64 lo, .int .i64 hi] w fun e w' => e = .returned (.bool false) ∧ w = w' := by
  by_cases h1 : n < lo
  · clear h
    go_enter Try.func97, Try.ntmps97
    go_wp2
    go_ret
    exact ⟨rfl, rfl⟩
  · have h2 : hi < n := by omega
    have h3 : lo ≤ n := by omega
    clear h h1
    go_enter Try.func97, Try.ntmps97
    go_wp2
    go_ret
    exact ⟨ret_bool (decide_eq_false (by omega)), rfl⟩
theorem inS_yes (n lo hi : Int) (w : World) (h1 : lo ≤ n) (h2 : n ≤ hi) :
    Calls Try.prog 82 #[.int .i64 n, .int .i64 lo, .int .i64 hi] w fun e w' => e = .returned (.bool true) ∧ w = w' := by
  go_enter Try.func82, Try.ntmps82
  go_wp2
  go_ret
  exact ⟨rfl, rfl⟩
theorem inS_no (n lo hi : Int) (w : World) (h : n < lo ∨ hi < n) :
    Calls Try.prog 82 #[.int .i64 n, .int .i64 lo, .int .i64 hi] w fun e w' => e = .returned (.bool false) ∧ w = w' := by
  by_cases h1 : n < lo
  · clear h
    go_enter Try.func82, Try.ntmps82
    go_wp2
    go_ret
    exact ⟨rfl, rfl⟩
  · have h2 : hi < n := by omega
    have h3 : lo ≤ n := by omega
    clear h h1
    go_enter Try.func82, Try.ntmps82
    go_wp2
    go_ret
    exact ⟨ret_bool (decide_eq_false (by omega)), rfl⟩
theorem rectOkI_yes (r : Rc) (hr : r.ok) (w : World) :
    Calls Try.prog 56 #[.agg #[.int .i64 r.x, .int .i64 r.y, .int .i64 r.w, .int .i64 r.h]] w fun e w' => e = .returned (.bool true) ∧ Below w.heap.size w w' := by
  obtain ⟨h1, h2, h3, h4, h5, h6, h7, h8⟩ := hr
  go_enter Try.func56, Try.ntmps56
  go_wp2_with ((go_at_call 97; (with_reducible refine (inI_yes _ _ _ _ (by omega) (by omega)).mono ?_); rintro e w' ⟨rfl, rfl⟩))
  go_ret
  exact ⟨rfl, (Below.refl _ _).alloc (Nat.le_refl _) _⟩
theorem rectOkI_no (r : Rc) (hr : ¬ r.ok) (w : World) :
    Calls Try.prog 56 #[.agg #[.int .i64 r.x, .int .i64 r.y, .int .i64 r.w, .int .i64 r.h]] w fun e w' => e = .returned (.bool false) ∧ Below w.heap.size w w' := by
  unfold Rc.ok at hr
  by_cases h1 : -1000 ≤ r.x ∧ r.x ≤ 1000
  · obtain ⟨h1, h2⟩ := h1
    by_cases h3 : -1000 ≤ r.y ∧ r.y ≤ 1000
    · obtain ⟨h3, h4⟩ := h3
      by_cases h5 : 0 ≤ r.w ∧ r.w ≤ 1000
      · obtain ⟨h5, h6⟩ := h5
        have h7 : r.h < 0 ∨ 1000 < r.h := by omega
        have H7 := Lib.hid h7
        clear h7 hr
        go_enter Try.func56, Try.ntmps56
        go_wp2_with (first | (go_at_call 97; (with_reducible refine (inI_yes _ _ _ _ (by omega) (by omega)).mono ?_); rintro e w' ⟨rfl, rfl⟩) | (go_at_call 97; (with_reducible refine (inI_no _ _ _ _ H7.out).mono ?_); rintro e w' ⟨rfl, rfl⟩))
        go_ret
        exact ⟨rfl, (Below.refl _ _).alloc (Nat.le_refl _) _⟩
      · have h7 : r.w < 0 ∨ 1000 < r.w := by omega
        have H7 := Lib.hid h7
        clear h7 hr h5
        go_enter Try.func56, Try.ntmps56
        go_wp2_with (first | (go_at_call 97; (with_reducible refine (inI_yes _ _ _ _ (by omega) (by omega)).mono ?_); rintro e w' ⟨rfl, rfl⟩) | (go_at_call 97; (with_reducible refine (inI_no _ _ _ _ H7.out).mono ?_); rintro e w' ⟨rfl, rfl⟩))
        go_ret
        exact ⟨rfl, (Below.refl _ _).alloc (Nat.le_refl _) _⟩
    · have h7 : r.y < -1000 ∨ 1000 < r.y := by omega
      have H7 := Lib.hid h7
      clear h7 hr h3
      go_enter Try.func56, Try.ntmps56
      go_wp2_with (first | (go_at_call 97; (with_reducible refine (inI_yes _ _ _ _ (by omega) (by omega)).mono ?_); rintro e w' ⟨rfl, rfl⟩) | (go_at_call 97; (with_reducible refine (inI_no _ _ _ _ H7.out).mono ?_); rintro e w' ⟨rfl, rfl⟩))
      go_ret
      exact ⟨rfl, (Below.refl _ _).alloc (Nat.le_refl _) _⟩
  · have h7 : r.x < -1000 ∨ 1000 < r.x := by omega
    have H7 := Lib.hid h7
    clear h7 hr h1
    go_enter Try.func56, Try.ntmps56
    go_wp2_with (first | (go_at_call 97; (with_reducible refine (inI_no _ _ _ _ H7.out).mono ?_); rintro e w' ⟨rfl, rfl⟩))
    go_ret
    exact ⟨rfl, (Below.refl _ _).alloc (Nat.le_refl _) _⟩
theorem rectOkS_yes (r : Rc) (hr : r.ok) (w : World) :
    Calls Try.prog 140 #[.agg #[.int .i64 r.x, .int .i64 r.y, .int .i64 r.w, .int .i64 r.h]] w fun e w' => e = .returned (.bool true) ∧ Below w.heap.size w w' := by
  obtain ⟨h1, h2, h3, h4, h5, h6, h7, h8⟩ := hr
  go_enter Try.func140, Try.ntmps140
  go_wp2_with ((go_at_call 82; (with_reducible refine (inS_yes _ _ _ _ (by omega) (by omega)).mono ?_); rintro e w' ⟨rfl, rfl⟩))
  go_ret
  exact ⟨rfl, (Below.refl _ _).alloc (Nat.le_refl _) _⟩
theorem rectOkS_no (r : Rc) (hr : ¬ r.ok) (w : World) :
    Calls Try.prog 140 #[.agg #[.int .i64 r.x, .int .i64 r.y, .int .i64 r.w, .int .i64 r.h]] w fun e w' => e = .returned (.bool false) ∧ Below w.heap.size w w' := by
  unfold Rc.ok at hr
  by_cases h1 : -1000 ≤ r.x ∧ r.x ≤ 1000
  · obtain ⟨h1, h2⟩ := h1
    by_cases h3 : -1000 ≤ r.y ∧ r.y ≤ 1000
    · obtain ⟨h3, h4⟩ := h3
      by_cases h5 : 0 ≤ r.w ∧ r.w ≤ 1000
      · obtain ⟨h5, h6⟩ := h5
        have h7 : r.h < 0 ∨ 1000 < r.h := by omega
        have H7 := Lib.hid h7
        clear h7 hr
        go_enter Try.func140, Try.ntmps140
        go_wp2_with (first | (go_at_call 82; (with_reducible refine (inS_yes _ _ _ _ (by omega) (by omega)).mono ?_); rintro e w' ⟨rfl, rfl⟩) | (go_at_call 82; (with_reducible refine (inS_no _ _ _ _ H7.out).mono ?_); rintro e w' ⟨rfl, rfl⟩))
        go_ret
        exact ⟨rfl, (Below.refl _ _).alloc (Nat.le_refl _) _⟩
      · have h7 : r.w < 0 ∨ 1000 < r.w := by omega
        have H7 := Lib.hid h7
        clear h7 hr h5
        go_enter Try.func140, Try.ntmps140
        go_wp2_with (first | (go_at_call 82; (with_reducible refine (inS_yes _ _ _ _ (by omega) (by omega)).mono ?_); rintro e w' ⟨rfl, rfl⟩) | (go_at_call 82; (with_reducible refine (inS_no _ _ _ _ H7.out).mono ?_); rintro e w' ⟨rfl, rfl⟩))
        go_ret
        exact ⟨rfl, (Below.refl _ _).alloc (Nat.le_refl _) _⟩
    · have h7 : r.y < -1000 ∨ 1000 < r.y := by omega
      have H7 := Lib.hid h7
      clear h7 hr h3
      go_enter Try.func140, Try.ntmps140
      go_wp2_with (first | (go_at_call 82; (with_reducible refine (inS_yes _ _ _ _ (by omega) (by omega)).mono ?_); rintro e w' ⟨rfl, rfl⟩) | (go_at_call 82; (with_reducible refine (inS_no _ _ _ _ H7.out).mono ?_); rintro e w' ⟨rfl, rfl⟩))
      go_ret
      exact ⟨rfl, (Below.refl _ _).alloc (Nat.le_refl _) _⟩
  · have h7 : r.x < -1000 ∨ 1000 < r.x := by omega
    have H7 := Lib.hid h7
    clear h7 hr h1
    go_enter Try.func140, Try.ntmps140
    go_wp2_with (first | (go_at_call 82; (with_reducible refine (inS_no _ _ _ _ H7.out).mono ?_); rintro e w' ⟨rfl, rfl⟩))
    go_ret
    exact ⟨rfl, (Below.refl _ _).alloc (Nat.le_refl _) _⟩
end Go.Proofs.Ytjjamdibgjeokaa
namespace Go.Proofs.Ytjjamdibgjeokaa
open Go.RowKit
theorem and255 (x : Int) (h0 : 0 ≤ x) (h1 : x ≤ 9223372036854775807) : bits .and .i64 x 255 = x % 256 := by
  obtain ⟨n, rfl⟩ := Int.eq_ofNat_of_zero_le h0
  show IntKind.i64.wrap ((BitVec.ofInt 64 (n : Int) &&& BitVec.ofInt 64 ((255 : Nat) : Int)).toNat : Int) = _
  rw [BitVec.toNat_and, ofInt_u64 n (by omega), ofInt_u64 255 (by omega), nat_mask8]
  exact Go.Lib.wrap_i64_small _ (by omega)
theorem and24 (x : Int) (h0 : 0 ≤ x) (h1 : x ≤ 9223372036854775807) : bits .and .i64 x 16777215 = x % 16777216 := by
  obtain ⟨n, rfl⟩ := Int.eq_ofNat_of_zero_le h0
  show IntKind.i64.wrap ((BitVec.ofInt 64 (n : Int) &&& BitVec.ofInt 64 ((16777215 : Nat) : Int)).toNat : Int) = _
  rw [BitVec.toNat_and, ofInt_u64 n (by omega), ofInt_u64 16777215 (by omega), nat_mask24]
  exact Go.Lib.wrap_i64_small _ (by omega)
theorem or_join (m : Nat) (x y : Int) (h0 : 0 ≤ x) (h1 : x ≤ 4294967295) (hx : x % (2 ^ m : Nat) = 0) (h2 : 0 ≤ y) (h3 : y < (2 ^ m : Nat)) (hm : (2 ^ m : Nat) ≤ 16777216) : bits .or .i64 x y = x + y := by
  obtain ⟨a, rfl⟩ := Int.eq_ofNat_of_zero_le h0
  obtain ⟨b, rfl⟩ := Int.eq_ofNat_of_zero_le h2
  show IntKind.i64.wrap ((BitVec.ofInt 64 (a : Int) ||| BitVec.ofInt 64 (b : Int)).toNat : Int) = _
  rw [BitVec.toNat_or, ofInt_u64 a (by omega), ofInt_u64 b (by omega), nat_join m a b (by exact_mod_cast hx) (by exact_mod_cast h3)]
  exact Go.Lib.wrap_i64_small _ (by omega)
/-- Whether a number is a pixel; a channel. -/
def pixOk (p : Int) : Prop := 0 ≤ p ∧ p ≤ 4294967295
def chOk (a : Int) : Prop := 0 ≤ a ∧ a ≤ 255
instance (p : Int) : Decidable (pixOk p) := by unfold pixOk; infer_instance
instance (p : Int) : Decidable (chOk p) := by unfold chOk; infer_instance
def pack4 (a r g b : Int) : Int := a * 16777216 + r * 65536 + g * 256 + b
theorem packed_bits (a r g b : Int) (ha : chOk a) (hr : chOk r) (hg : chOk g) (hb : chOk b) :
    bits .or .i64 (bits .or .i64 (bits .or .i64 (a * 16777216) (r * 65536)) (g * 256)) b = pack4 a r g b := by
  unfold chOk at *
  rw [or_join 24 (a * 16777216) (r * 65536) (by omega) (by omega) (by omega) (by omega) (by omega) (by omega),
    or_join 16 (a * 16777216 + r * 65536) (g * 256) (by omega) (by omega) (by omega) (by omega) (by omega) (by omega),
    or_join 8 (a * 16777216 + r * 65536 + g * 256) b (by omega) (by omega) (by omega) (by omega) (by omega) (by omega)]
  rfl
theorem pack_ok {a r g b : Int} (ha : chOk a) (hr : chOk r) (hg : chOk g) (hb : chOk b) : pixOk (pack4 a r g b) := by
  unfold chOk pixOk pack4 at *; omega
theorem ch_0 {p : Int} (h : pixOk p) : chOk (p / 16777216) := by unfold pixOk at h; unfold chOk; omega
theorem ch_1 (p : Int) : chOk (p / 65536 % 256) := by unfold chOk; omega
theorem ch_2 (p : Int) : chOk (p / 256 % 256) := by unfold chOk; omega
theorem ch_3 (p : Int) : chOk (p % 256) := by unfold chOk; omega
/-- A channel of a pixel. -/
def chanK (p k : Int) : Int := if k = 0 then p / 16777216 else if k = 1 then p / 65536 % 256 else if k = 2 then p / 256 % 256 else p % 256
/-- What ChannelOf answers. -/
def chan (p k : Int) : Int := if pixOk p ∧ 0 ≤ k ∧ k ≤ 3 then chanK p k else -1
/-- What Part answers, of two that are in the range. -/
def pxPart (a b : Int) : Int := (a * b + 127) / 255
theorem mul_bd {a b : Int} (ha : chOk a) (hb : chOk b) : 0 ≤ a * b ∧ a * b ≤ 65025 := by
  unfold chOk at *
  refine ⟨Int.mul_nonneg ha.1 hb.1, ?_⟩
  have := Int.mul_le_mul ha.2 hb.2 hb.1 (by omega)
  omega
theorem part_ok {a b : Int} (ha : chOk a) (hb : chOk b) : chOk (pxPart a b) := by
  have h := mul_bd ha hb
  unfold chOk pxPart
  omega
/-- One channel of x over y at alpha al. -/
def mixC (x y al : Int) : Int := pxPart x al + pxPart y (255 - al)
theorem mix_bd {x y al lo hi : Int} (_ : chOk x) (_ : chOk y) (ha : chOk al) (h1 : lo ≤ x) (h2 : lo ≤ y) (h3 : x ≤ hi) (h4 : y ≤ hi) : lo ≤ mixC x y al ∧ mixC x y al ≤ hi := by
  unfold chOk at *
  have e1 : lo * al ≤ x * al := Int.mul_le_mul_of_nonneg_right h1 ha.1
  have e2 : x * al ≤ hi * al := Int.mul_le_mul_of_nonneg_right h3 ha.1
  have e3 : lo * (255 - al) ≤ y * (255 - al) := Int.mul_le_mul_of_nonneg_right h2 (by omega)
  have e4 : y * (255 - al) ≤ hi * (255 - al) := Int.mul_le_mul_of_nonneg_right h4 (by omega)
  have e5 : lo * (255 - al) = lo * 255 - lo * al := Int.mul_sub _ _ _
  have e6 : hi * (255 - al) = hi * 255 - hi * al := Int.mul_sub _ _ _
  rw [e5] at e3
  rw [e6] at e4
  unfold mixC pxPart
  generalize x * al = A at *
  generalize y * (255 - al) = B at *
  generalize lo * al = C at *
  generalize hi * al = D at *
  omega
theorem mix_ok {x y al : Int} (hx : chOk x) (hy : chOk y) (ha : chOk al) : chOk (mixC x y al) :=
  mix_bd hx hy ha hx.1 hy.1 hx.2 hy.2
/-- What Over answers, of two pixels. -/
def overK (p q : Int) : Int := pack4 255 (mixC (p / 65536 % 256) (q / 65536 % 256) (p / 16777216)) (mixC (p / 256 % 256) (q / 256 % 256) (p / 16777216)) (mixC (p % 256) (q % 256) (p / 16777216))
def over (p q : Int) : Int := if pixOk p ∧ pixOk q then overK p q else -1
theorem ch_255 : chOk 255 := ⟨by omega, by omega⟩
theorem overK_ok {p : Int} (h : pixOk p) (q : Int) : pixOk (overK p q) :=
  pack_ok ch_255 (mix_ok (ch_1 p) (ch_1 q) (ch_0 h)) (mix_ok (ch_2 p) (ch_2 q) (ch_0 h)) (mix_ok (ch_3 p) (ch_3 q) (ch_0 h))
/-- What Fade answers. -/
def fadeK (p al : Int) : Int := pack4 (pxPart (p / 16777216) al) (p / 65536 % 256) (p / 256 % 256) (p % 256)
def fade (p al : Int) : Int := if pixOk p ∧ chOk al then fadeK p al else -1
end Go.Proofs.Ytjjamdibgjeokaa
namespace Go.Proofs.Ytjjamdibgjeokaa
open Go.RowKit
theorem pixI_yes (p : Int) (h : pixOk p) (w : World) :
    Calls Try.prog 90 #[.int .i64 p] w fun e w' => e = .returned (.bool true) ∧ w = w' := by
  go_enter Try.func90, Try.ntmps90
  go_wp2_with fail
  refine (inI_yes p 0 4294967295 _ h.1 h.2).mono ?_
  rintro e w' ⟨rfl, rfl⟩
  go_wp2
  go_ret
  exact ⟨rfl, rfl⟩
theorem pixI_no (p : Int) (h : ¬ pixOk p) (w : World) :
    Calls Try.prog 90 #[.int .i64 p] w fun e w' => e = .returned (.bool false) ∧ w = w' := by
  have h' : p < 0 ∨ 4294967295 < p := by unfold pixOk at h; omega
  have H := Lib.hid h'
  clear h h'
  go_enter Try.func90, Try.ntmps90
  go_wp2_with fail
  refine (inI_no p 0 4294967295 _ H.out).mono ?_
  rintro e w' ⟨rfl, rfl⟩
  go_wp2
  go_ret
  exact ⟨rfl, rfl⟩
theorem pixS_yes (p : Int) (h : pixOk p) (w : World) :
    Calls Try.prog 59 #[.int .i64 p] w fun e w' => e = .returned (.bool true) ∧ w = w' := by
  go_enter Try.func59, Try.ntmps59
  go_wp2_with fail
  refine (inS_yes p 0 4294967295 _ h.1 h.2).mono ?_
  rintro e w' ⟨rfl, rfl⟩
  go_wp2
  go_ret
  exact ⟨rfl, rfl⟩
theorem pixS_no (p : Int) (h : ¬ pixOk p) (w : World) :
    Calls Try.prog 59 #[.int .i64 p] w fun e w' => e = .returned (.bool false) ∧ w = w' := by
  have h' : p < 0 ∨ 4294967295 < p := by unfold pixOk at h; omega
  have H := Lib.hid h'
  clear h h'
  go_enter Try.func59, Try.ntmps59
  go_wp2_with fail
  refine (inS_no p 0 4294967295 _ H.out).mono ?_
  rintro e w' ⟨rfl, rfl⟩
  go_wp2
  go_ret
  exact ⟨rfl, rfl⟩
theorem ch_no {a : Int} (h : ¬ chOk a) : a < 0 ∨ 255 < a := by unfold chOk at h; omega
theorem partI_ok (a b : Int) (ha : chOk a) (hb : chOk b) (w : World) :
    Calls Try.prog 104 #[.int .i64 a, .int .i64 b] w fun e w' => e = .returned (.int .i64 (pxPart a b)) ∧ w = w' := by
  obtain ⟨m0, m1⟩ := mul_bd ha hb
  have Ha := Lib.hid ha
  have Hb := Lib.hid hb
  clear ha hb
  go_enter Try.func104, Try.ntmps104
  go_wp2_with fail
  refine (inI_yes a 0 255 _ Ha.out.1 Ha.out.2).mono ?_
  rintro e w' ⟨rfl, rfl⟩
  go_wp2_with fail
  refine (inI_yes b 0 255 _ Hb.out.1 Hb.out.2).mono ?_
  rintro e w' ⟨rfl, rfl⟩
  go_wp2
  go_ret
  exact ⟨rfl, rfl⟩
theorem partS_ok (a b : Int) (ha : chOk a) (hb : chOk b) (w : World) :
    Calls Try.prog 61 #[.int .i64 a, .int .i64 b] w fun e w' => e = .returned (.int .i64 (pxPart a b)) ∧ w = w' := by
  obtain ⟨m0, m1⟩ := mul_bd ha hb
  have Ha := Lib.hid ha
  have Hb := Lib.hid hb
  clear ha hb
  go_enter Try.func61, Try.ntmps61
  go_wp2_with fail
  refine (inS_yes a 0 255 _ Ha.out.1 Ha.out.2).mono ?_
  rintro e w' ⟨rfl, rfl⟩
  go_wp2_with fail
  refine (inS_yes b 0 255 _ Hb.out.1 Hb.out.2).mono ?_
  rintro e w' ⟨rfl, rfl⟩
  go_wp2
  go_ret
  exact ⟨rfl, rfl⟩
end Go.Proofs.Ytjjamdibgjeokaa
namespace Go.Proofs.Ytjjamdibgjeokaa
open Go.RowKit
/-- Pixel (x, y) of a picture of w by h pixels. -/
structure Pp where
  w : Int
  h : Int
  x : Int
  y : Int
def Pp.ok (p : Pp) : Prop := 1 ≤ p.w ∧ p.w ≤ 16 ∧ 1 ≤ p.h ∧ p.h ≤ 16 ∧ 0 ≤ p.x ∧ p.x < p.w ∧ 0 ≤ p.y ∧ p.y < p.h
def Pp.mir (p : Pp) : Pp := ⟨p.w, p.h, p.w - 1 - p.x, p.y⟩
def Pp.qt (p : Pp) : Pp := ⟨p.h, p.w, p.h - 1 - p.y, p.x⟩
def Pp.rep (f : Pp → Pp) : Nat → Pp → Pp
  | 0, p => p
  | n + 1, p => f (Pp.rep f n p)
def Pp.ori (o : Int) (p : Pp) : Pp := Pp.rep Pp.qt (o % 4).toNat (Pp.rep Pp.mir (o / 4).toNat p)
theorem Pp.mir_ok {p : Pp} (h : p.ok) : p.mir.ok := by
  unfold Pp.ok at h; unfold Pp.ok Pp.mir; dsimp only; omega
theorem Pp.qt_ok {p : Pp} (h : p.ok) : p.qt.ok := by
  unfold Pp.ok at h; unfold Pp.ok Pp.qt; dsimp only; omega
theorem Pp.rep_ok {f : Pp → Pp} (hf : ∀ p : Pp, p.ok → (f p).ok) (n : Nat) {p : Pp} (h : p.ok) : (Pp.rep f n p).ok := by
  induction n with
  | zero => exact h
  | succ n ih => exact hf _ ih
theorem Pp.ori_ok {p : Pp} (o : Int) (h : p.ok) : (Pp.ori o p).ok := Pp.rep_ok (fun _ => Pp.qt_ok) _ (Pp.rep_ok (fun _ => Pp.mir_ok) _ h)
def orOk (o : Int) : Prop := 0 ≤ o ∧ o ≤ 7
theorem orOk.cases {o : Int} (h : orOk o) : o = 0 ∨ o = 1 ∨ o = 2 ∨ o = 3 ∨ o = 4 ∨ o = 5 ∨ o = 6 ∨ o = 7 := by unfold orOk at h; omega
def undoO (o : Int) : Int := if 4 ≤ o then o else (4 - o) % 4
theorem undoO_ok {o : Int} (h : orOk o) : orOk (undoO o) := by
  rcases h.cases with rfl | rfl | rfl | rfl | rfl | rfl | rfl | rfl <;> (unfold orOk undoO; decide)
theorem ori_undo {a : Int} (ha : orOk a) (p : Pp) : Pp.ori (undoO a) (Pp.ori a p) = p := by
  obtain ⟨w, h, x, y⟩ := p
  rcases ha.cases with rfl | rfl | rfl | rfl | rfl | rfl | rfl | rfl <;>
    (simp [Pp.ori, Pp.rep, Pp.mir, Pp.qt, undoO]; try omega)
theorem undo_undo {a : Int} (ha : orOk a) (p : Pp) : Pp.ori a (Pp.ori (undoO a) p) = p := by
  obtain ⟨w, h, x, y⟩ := p
  rcases ha.cases with rfl | rfl | rfl | rfl | rfl | rfl | rfl | rfl <;>
    (simp [Pp.ori, Pp.rep, Pp.mir, Pp.qt, undoO]; try omega)
/-- The size of a picture in an orientation. -/
def orW (w h o : Int) : Int := if o % 2 = 1 then h else w
def orH (w h o : Int) : Int := if o % 2 = 1 then w else h
theorem ori_w {o : Int} (ho : orOk o) (p : Pp) : (Pp.ori o p).w = orW p.w p.h o := by
  rcases ho.cases with rfl | rfl | rfl | rfl | rfl | rfl | rfl | rfl <;> rfl
theorem ori_h {o : Int} (ho : orOk o) (p : Pp) : (Pp.ori o p).h = orH p.w p.h o := by
  rcases ho.cases with rfl | rfl | rfl | rfl | rfl | rfl | rfl | rfl <;> rfl
end Go.Proofs.Ytjjamdibgjeokaa
namespace Go.Proofs.Ytjjamdibgjeokaa
/-- The numbers of the common part, as the code computes them. -/
def isectIn (a b : Rc) : Prop := max a.x b.x < min (a.x + a.w) (b.x + b.w) ∧ max a.y b.y < min (a.y + a.h) (b.y + b.h)
def isectRaw (a b : Rc) : Rc := ⟨max a.x b.x, max a.y b.y, min (a.x + a.w) (b.x + b.w) - max a.x b.x, min (a.y + a.h) (b.y + b.h) - max a.y b.y⟩
open Classical in
/-- The rectangle of the common points; the zero rectangle if there are none or one of both is not valid. -/
noncomputable def isect (a b : Rc) : Rc := if a.ok ∧ b.ok ∧ isectIn a b then isectRaw a b else ⟨0, 0, 0, 0⟩
theorem isect_yes {a b : Rc} (h1 : a.ok) (h2 : b.ok) (h3 : isectIn a b) : isect a b = isectRaw a b := if_pos ⟨h1, h2, h3⟩
theorem isect_no {a b : Rc} (h : ¬ (a.ok ∧ b.ok ∧ isectIn a b)) : isect a b = ⟨0, 0, 0, 0⟩ := if_neg h
theorem ret_rc {r : Rc} {x y u v : Int} (h : r = ⟨x, y, u, v⟩) : Ending.returned (.agg #[.int .i64 x, .int .i64 y, .int .i64 u, .int .i64 v]) = .returned (.agg #[.int .i64 r.x, .int .i64 r.y, .int .i64 r.w, .int .i64 r.h]) := by
  subst h; rfl
theorem isect_bd (a b : Rc) (h1 : a.ok) (h2 : b.ok) : 
    (-1000 ≤ max a.x b.x ∧ max a.x b.x ≤ 1000) ∧ (-1000 ≤ max a.y b.y ∧ max a.y b.y ≤ 1000) ∧ (-1000 ≤ min (a.x + a.w) (b.x + b.w) ∧ min (a.x + a.w) (b.x + b.w) ≤ 2000) ∧ (-1000 ≤ min (a.y + a.h) (b.y + b.h) ∧ min (a.y + a.h) (b.y + b.h) ≤ 2000) := by
  unfold Rc.ok at h1 h2
  omega
end Go.Proofs.Ytjjamdibgjeokaa
namespace Go.Proofs.Ytjjamdibgjeokaa
open Go.RowKit
/-- Block g holds the four numbers of r. -/
def RcAt (w : World) (g : Nat) (r : Rc) : Prop := w.heap[g]? = some (.cells #[.int .i64 r.x, .int .i64 r.y, .int .i64 r.w, .int .i64 r.h] 39 (0, 0))
theorem RcAt.lt {w : World} {g : Nat} {r : Rc} (h : RcAt w g r) : g < w.heap.size := (Array.getElem?_eq_some_iff.1 h).1
theorem RcAt.cells {w : World} {g : Nat} {r : Rc} (h : RcAt w g r) :
    w.cell? ⟨g, 0, none⟩ = some (.int .i64 r.x) ∧ w.cell? ⟨g, 1, none⟩ = some (.int .i64 r.y) ∧ w.cell? ⟨g, 2, none⟩ = some (.int .i64 r.w) ∧ w.cell? ⟨g, 3, none⟩ = some (.int .i64 r.h) := by
  unfold RcAt at h
  refine ⟨?_, ?_, ?_, ?_⟩ <;> simp [World.cell?, h]
theorem RcAt.frozen {w : World} {g : Nat} {r : Rc} (h : RcAt w g r) (o : Nat) : w.frozen? ⟨g, o, none⟩ = false := by
  unfold RcAt at h; simp [World.frozen?, h]
theorem RcAt.below {w w' : World} {g B : Nat} {r : Rc} (h : RcAt w g r) (hb : Below B w w') (hg : g < B) : RcAt w' g r := (hb.block g hg).trans h
theorem RcAt.alloc {w : World} {g : Nat} {r : Rc} (h : RcAt w g r) (o : Obj) : RcAt (w.alloc o) g r := (Below.heap_alloc w o g h.lt).trans h
theorem RcAt.new (w : World) (r : Rc) : RcAt (w.alloc (.cells #[.int .i64 r.x, .int .i64 r.y, .int .i64 r.w, .int .i64 r.h] 39)) w.heap.size r := heap_alloc_new w _
theorem RcAt.newAt {w : World} {g : Nat} (h : w.heap.size = g) (r : Rc) : RcAt (w.alloc (.cells #[.int .i64 r.x, .int .i64 r.y, .int .i64 r.w, .int .i64 r.h] 39)) g r := h ▸ RcAt.new w r
theorem RcAt.drew {w : World} {g : Nat} {r : Rc} (h : RcAt w g r) : RcAt w.drew g r := h
theorem RcAt.drewN {w : World} {g : Nat} {r : Rc} (h : RcAt w g r) (n : Nat) : RcAt (w.drewN n) g r := h
theorem RcAt.set0 {w : World} {g : Nat} {r : Rc} (h : RcAt w g r) (a b c d : Int) :
    RcAt ((((w.setCell ⟨g, 0, none⟩ (.int .i64 a)).setCell ⟨g, 1, none⟩ (.int .i64 b)).setCell ⟨g, 2, none⟩ (.int .i64 c)).setCell ⟨g, 3, none⟩ (.int .i64 d)) g ⟨a, b, c, d⟩ := by
  unfold RcAt at *
  simp [World.setCell, Array.getElem?_modify, h]
theorem RcAt.far {w : World} {g : Nat} {r : Rc} (h : RcAt w g r) {p : Addr} (hp : g ≠ p.block) (v : Value) : RcAt (w.setCell p v) g r := (Below.heap_setCell w p v g hp).trans h
theorem RcAt.set2 {w : World} {g : Nat} {r : Rc} (h : RcAt w g r) (c d : Int) : RcAt ((w.setCell ⟨g, 2, none⟩ (.int .i64 c)).setCell ⟨g, 3, none⟩ (.int .i64 d)) g ⟨r.x, r.y, c, d⟩ := by
  unfold RcAt at *
  simp [World.setCell, Array.getElem?_modify, h]
end Go.Proofs.Ytjjamdibgjeokaa
namespace Go.Proofs.Ytjjamdibgjeokaa
open Go.RowKit
theorem bcell {W w1 : World} (hb : Below W.heap.size W w1) : (∀ b o, b < W.heap.size → w1.cell? ⟨b, o, none⟩ = W.cell? ⟨b, o, none⟩) ∧ (∀ b o, b < W.heap.size → w1.frozen? ⟨b, o, none⟩ = W.frozen? ⟨b, o, none⟩) :=
  ⟨fun b o h => hb.cell (p := ⟨b, o, none⟩) h, fun b o h => hb.frozen (p := ⟨b, o, none⟩) h⟩
theorem rightOf_any (r : Rc) (hr : r.ok) (w : World) :
    Calls Try.prog 57 #[.agg #[.int .i64 r.x, .int .i64 r.y, .int .i64 r.w, .int .i64 r.h]] w fun e w' => e = .returned (.int .i64 (r.x + r.w)) ∧ w.alloc (.cells #[.int .i64 r.x, .int .i64 r.y, .int .i64 r.w, .int .i64 r.h] 39) = w' := by
  obtain ⟨h1, h2, h3, h4, h5, h6, h7, h8⟩ := hr
  go_enter Try.func57, Try.ntmps57
  go_wp2
  go_ret
  exact ⟨rfl, rfl⟩
theorem bottomOf_any (r : Rc) (hr : r.ok) (w : World) :
    Calls Try.prog 58 #[.agg #[.int .i64 r.x, .int .i64 r.y, .int .i64 r.w, .int .i64 r.h]] w fun e w' => e = .returned (.int .i64 (r.y + r.h)) ∧ w.alloc (.cells #[.int .i64 r.x, .int .i64 r.y, .int .i64 r.w, .int .i64 r.h] 39) = w' := by
  obtain ⟨h1, h2, h3, h4, h5, h6, h7, h8⟩ := hr
  go_enter Try.func58, Try.ntmps58
  go_wp2
  go_ret
  exact ⟨rfl, rfl⟩
set_option maxHeartbeats 400000 in
theorem isectI_bad (a b : Rc) (h : ¬ a.ok ∨ a.ok ∧ ¬ b.ok) (w : World) :
    Calls Try.prog 92 #[.agg #[.int .i64 a.x, .int .i64 a.y, .int .i64 a.w, .int .i64 a.h], .agg #[.int .i64 b.x, .int .i64 b.y, .int .i64 b.w, .int .i64 b.h]] w
      fun e w' => e = .returned (.agg #[.int .i64 (isect a b).x, .int .i64 (isect a b).y, .int .i64 (isect a b).w, .int .i64 (isect a b).h]) ∧ Below w.heap.size w w' := by
  have H0 : Hid (isect a b = ⟨0, 0, 0, 0⟩) := isect_no (by rintro ⟨h1, h2, h3⟩; rcases h with h | ⟨h, h'⟩ <;> contradiction)
  rcases h with h | ⟨h, h'⟩
  · have Ha := Lib.hid h
    clear h
    go_enter Try.func92, Try.ntmps92
    go_wp2_with fail
    refine (rectOkI_no a Ha.out _).mono ?_
    rintro e w1 ⟨rfl, hb⟩
    obtain ⟨hc, hf⟩ := bcell hb
    have hz : w.heap.size + 1 + 1 < w1.heap.size := by have := hb.size; simp at this; omega
    go_wp2_with fail
    exact bodyPost_ret (v := .agg #[.int .i64 0, .int .i64 0, .int .i64 0, .int .i64 0]) (by simp [results, Try.results92, go_sem, hc]) rfl ⟨ret_rc H0.out, (((((((((Below.refl _ _).alloc (Nat.le_refl _) _).alloc (by simp) _).alloc (by simp; omega) _).trans (hb.mono (by simp; omega))).setCell (by simp; omega) _).setCell (by simp; omega) _).setCell (by simp; omega) _).setCell (by simp; omega) _)⟩
  · have Ha := Lib.hid h
    have Hb := Lib.hid h'
    clear h h'
    go_enter Try.func92, Try.ntmps92
    go_wp2_with fail
    refine (rectOkI_yes a Ha.out _).mono ?_
    rintro e w1 ⟨rfl, hb⟩
    obtain ⟨hc, hf⟩ := bcell hb
    have hz : w.heap.size + 1 + 1 < w1.heap.size := by have := hb.size; simp at this; omega
    go_wp2_with fail
    refine (rectOkI_no b Hb.out _).mono ?_
    rintro e w2 ⟨rfl, hb2⟩
    obtain ⟨hc2, hf2⟩ := bcell hb2
    have hz2 : w.heap.size + 1 + 1 < w2.heap.size := by have := hb2.size; omega
    go_wp2_with fail
    exact bodyPost_ret (v := .agg #[.int .i64 0, .int .i64 0, .int .i64 0, .int .i64 0]) (by simp [results, Try.results92, go_sem, hc, hz, hc2]) rfl ⟨ret_rc H0.out, ((((((((((Below.refl _ _).alloc (Nat.le_refl _) _).alloc (by simp) _).alloc (by simp; omega) _).trans (hb.mono (by simp; omega))).trans (hb2.mono (by omega))).setCell (by simp; omega) _).setCell (by simp; omega) _).setCell (by simp; omega) _).setCell (by simp; omega) _)⟩
set_option maxHeartbeats 2000000 in
theorem isectI_ok (a b : Rc) (ha : a.ok) (hb : b.ok) (w : World) :
    Calls Try.prog 92 #[.agg #[.int .i64 a.x, .int .i64 a.y, .int .i64 a.w, .int .i64 a.h], .agg #[.int .i64 b.x, .int .i64 b.y, .int .i64 b.w, .int .i64 b.h]] w
      fun e w' => e = .returned (.agg #[.int .i64 (isect a b).x, .int .i64 (isect a b).y, .int .i64 (isect a b).w, .int .i64 (isect a b).h]) ∧ Below w.heap.size w w' := by
  have Ha := Lib.hid ha
  have Hb := Lib.hid hb
  have hbd := isect_bd a b ha hb
  have Hbd := Lib.hid hbd
  clear ha hb hbd
  go_enter Try.func92, Try.ntmps92
  go_wp2_with fail
  refine (rectOkI_yes a Ha.out _).mono ?_
  rintro e w1 ⟨rfl, hb⟩
  obtain ⟨hc, hf⟩ := bcell hb
  have hz : w.heap.size + 1 + 1 < w1.heap.size := by have := hb.size; simp at this; omega
  go_wp2_with fail
  refine (rectOkI_yes b Hb.out _).mono ?_
  rintro e w2 ⟨rfl, hb2⟩
  obtain ⟨hc2, hf2⟩ := bcell hb2
  have hz2 : w.heap.size + 1 + 1 < w2.heap.size := by have := hb2.size; omega
  have hA : RcAt w2 w.heap.size a := (((((RcAt.new w a).alloc _).alloc _).below hb (by simp; omega))).below hb2 (by omega)
  have hB : RcAt w2 (w.heap.size + 1) b := (((RcAt.newAt (by simp) b).alloc _).below hb (by simp)).below hb2 (by omega)
  have hR : RcAt w2 (w.heap.size + 1 + 1) ⟨0, 0, 0, 0⟩ := ((RcAt.newAt (by simp) ⟨0, 0, 0, 0⟩).below hb (by simp)).below hb2 (by omega)
  have hw : Below w.heap.size w w2 := ((((((Below.refl _ _).alloc (Nat.le_refl _) _).alloc (by simp) _).alloc (by simp; omega) _).trans (hb.mono (by simp; omega))).trans (hb2.mono (by omega)))
  clear hc hc2 hf hf2 hb hb2 hz
  have HA := Lib.hid hA
  have HB := Lib.hid hB
  have HR := Lib.hid hR
  obtain ⟨a0, a1, a2, a3⟩ := hA.cells
  obtain ⟨b0, b1, b2, b3⟩ := hB.cells
  clear hA hB hR
  go_upto_region 4 with fail
  go_cut [5, 6] (fun s5 s6 wx => ∃ X X' : Int, s5 = .int .i64 X ∧ s6 = .int .i64 X' ∧ Hid (X = max a.x b.x) ∧ Hid (X' = min (a.x + a.w) (b.x + b.w)) ∧ RcAt wx w.heap.size a ∧ RcAt wx (w.heap.size + 1) b ∧ RcAt wx (w.heap.size + 1 + 1) ⟨0, 0, 0, 0⟩ ∧ Below w.heap.size w wx)
  case first =>
    obtain ⟨M, hM⟩ : ∃ M, M = max a.x b.x := ⟨_, rfl⟩
    obtain ⟨N, hN⟩ : ∃ N, N = min (a.x + a.w) (b.x + b.w) := ⟨_, rfl⟩
    have hm : (if a.x < b.x then b.x else a.x) = M := by rw [hM]; split <;> omega
    have hn : (if b.x + b.w < a.x + a.w then b.x + b.w else a.x + a.w) = N := by rw [hN]; split <;> omega
    have HM := Lib.hid hM
    have HN := Lib.hid hN
    clear hM hN
    go_region_held3 (fun w' => (w'.cell? ⟨w.heap.size, 0, none⟩ = some (.int .i64 a.x) ∧ w'.cell? ⟨w.heap.size, 1, none⟩ = some (.int .i64 a.y) ∧ w'.cell? ⟨w.heap.size, 2, none⟩ = some (.int .i64 a.w) ∧ w'.cell? ⟨w.heap.size, 3, none⟩ = some (.int .i64 a.h)) ∧
      (w'.cell? ⟨w.heap.size + 1, 0, none⟩ = some (.int .i64 b.x) ∧ w'.cell? ⟨w.heap.size + 1, 1, none⟩ = some (.int .i64 b.y) ∧ w'.cell? ⟨w.heap.size + 1, 2, none⟩ = some (.int .i64 b.w) ∧ w'.cell? ⟨w.heap.size + 1, 3, none⟩ = some (.int .i64 b.h)))
      (go_keep) (first | (go_at_call 57; (with_reducible refine (rightOf_any a Ha.out _).mono ?_); rintro e w' ⟨rfl, rfl⟩) | (go_at_call 57; (with_reducible refine (rightOf_any b Hb.out _).mono ?_); rintro e w' ⟨rfl, rfl⟩))
    all_goals
      go_wp2_with fail
      go_meet
      case rel => exact ⟨M, N, rfl, rfl, HM, HN, ((HA.out.alloc _).alloc _).drew, ((HB.out.alloc _).alloc _).drew, ((HR.out.alloc _).alloc _).drew, ((hw.alloc hw.size _).alloc (by have := hw.size; simp; omega) _).drew⟩
  case rest =>
    obtain ⟨X, X', rfl, rfl, HX, HX', hA, hB, hR, hw⟩ := hcut
    obtain ⟨a0, a1, a2, a3⟩ := hA.cells
    obtain ⟨b0, b1, b2, b3⟩ := hB.cells
    have HA := Lib.hid hA
    have HB := Lib.hid hB
    have HR := Lib.hid hR
    have hz2 := hR.lt
    clear hA hB hR
    go_upto_region 5 with fail
    go_cut [7, 8] (fun s7 s8 wx => ∃ Y Y' : Int, s7 = .int .i64 Y ∧ s8 = .int .i64 Y' ∧ Hid (Y = max a.y b.y) ∧ Hid (Y' = min (a.y + a.h) (b.y + b.h)) ∧ RcAt wx w.heap.size a ∧ RcAt wx (w.heap.size + 1) b ∧ RcAt wx (w.heap.size + 1 + 1) ⟨0, 0, 0, 0⟩ ∧ Below w.heap.size w wx)
    case first =>
      obtain ⟨M, hM⟩ : ∃ M, M = max a.y b.y := ⟨_, rfl⟩
      obtain ⟨N, hN⟩ : ∃ N, N = min (a.y + a.h) (b.y + b.h) := ⟨_, rfl⟩
      have hm : (if a.y < b.y then b.y else a.y) = M := by rw [hM]; split <;> omega
      have hn : (if b.y + b.h < a.y + a.h then b.y + b.h else a.y + a.h) = N := by rw [hN]; split <;> omega
      have HM := Lib.hid hM
      have HN := Lib.hid hN
      clear hM hN
      go_region_held3 (fun w' => (w'.cell? ⟨w.heap.size, 0, none⟩ = some (.int .i64 a.x) ∧ w'.cell? ⟨w.heap.size, 1, none⟩ = some (.int .i64 a.y) ∧ w'.cell? ⟨w.heap.size, 2, none⟩ = some (.int .i64 a.w) ∧ w'.cell? ⟨w.heap.size, 3, none⟩ = some (.int .i64 a.h)) ∧
        (w'.cell? ⟨w.heap.size + 1, 0, none⟩ = some (.int .i64 b.x) ∧ w'.cell? ⟨w.heap.size + 1, 1, none⟩ = some (.int .i64 b.y) ∧ w'.cell? ⟨w.heap.size + 1, 2, none⟩ = some (.int .i64 b.w) ∧ w'.cell? ⟨w.heap.size + 1, 3, none⟩ = some (.int .i64 b.h)))
        (go_keep) (first | (go_at_call 58; (with_reducible refine (bottomOf_any a Ha.out _).mono ?_); rintro e w' ⟨rfl, rfl⟩) | (go_at_call 58; (with_reducible refine (bottomOf_any b Hb.out _).mono ?_); rintro e w' ⟨rfl, rfl⟩))
      all_goals
        go_wp2_with fail
        go_meet
        case rel => exact ⟨M, N, rfl, rfl, HM, HN, ((HA.out.alloc _).alloc _).drew, ((HB.out.alloc _).alloc _).drew, ((HR.out.alloc _).alloc _).drew, ((hw.alloc hw.size _).alloc (by have := hw.size; simp; omega) _).drew⟩
    case rest =>
      obtain ⟨Y, Y', rfl, rfl, HY, HY', hA, hB, hR, hw⟩ := hcut
      have hz2 := hR.lt
      obtain ⟨r0, r1, r2, r3⟩ := hR.cells
      have rf := hR.frozen
      have HR := Lib.hid hR
      clear hA hB hR a0 a1 a2 a3 b0 b1 b2 b3
      have cc : -1000 ≤ X ∧ X ≤ 1000 ∧ -1000 ≤ Y ∧ Y ≤ 1000 ∧ -1000 ≤ X' ∧ X' ≤ 2000 ∧ -1000 ≤ Y' ∧ Y' ≤ 2000 := by
        have := HX.out; have := HX'.out; have := HY.out; have := HY'.out; have := Hbd.out; omega
      obtain ⟨c1, c2, c3, c4, c5, c6, c7, c8⟩ := cc
      by_cases h1 : X < X'
      · by_cases h2 : Y < Y'
        · go_wp2_with fail
          exact bodyPost_ret (v := .agg #[.int .i64 X, .int .i64 Y, .int .i64 (X' - X), .int .i64 (Y' - Y)]) (by simp [results, Try.results92, go_sem, r0, r1, r2, r3]) rfl ⟨ret_rc ((isect_yes Ha.out Hb.out (by unfold isectIn; have := HX.out; have := HX'.out; have := HY.out; have := HY'.out; omega)).trans (by unfold isectRaw; rw [← HX.out, ← HY.out, ← HX'.out, ← HY'.out])), ((((hw.setCell (by simp; omega) _).setCell (by simp; omega) _).setCell (by simp; omega) _).setCell (by simp; omega) _)⟩
        · go_wp2_with fail
          exact bodyPost_ret (v := .agg #[.int .i64 0, .int .i64 0, .int .i64 0, .int .i64 0]) (by simp [results, Try.results92, go_sem, r0, r1, r2, r3]) rfl ⟨ret_rc (isect_no (by rintro ⟨_, _, h⟩; unfold isectIn at h; have := HX.out; have := HX'.out; have := HY.out; have := HY'.out; omega)), ((((hw.setCell (by simp; omega) _).setCell (by simp; omega) _).setCell (by simp; omega) _).setCell (by simp; omega) _)⟩
      · go_wp2_with fail
        exact bodyPost_ret (v := .agg #[.int .i64 0, .int .i64 0, .int .i64 0, .int .i64 0]) (by simp [results, Try.results92, go_sem, r0, r1, r2, r3]) rfl ⟨ret_rc (isect_no (by rintro ⟨_, _, h⟩; unfold isectIn at h; have := HX.out; have := HX'.out; have := HY.out; have := HY'.out; omega)), ((((hw.setCell (by simp; omega) _).setCell (by simp; omega) _).setCell (by simp; omega) _).setCell (by simp; omega) _)⟩
theorem isectI_any (a b : Rc) (w : World) :
    Calls Try.prog 92 #[.agg #[.int .i64 a.x, .int .i64 a.y, .int .i64 a.w, .int .i64 a.h], .agg #[.int .i64 b.x, .int .i64 b.y, .int .i64 b.w, .int .i64 b.h]] w
      fun e w' => e = .returned (.agg #[.int .i64 (isect a b).x, .int .i64 (isect a b).y, .int .i64 (isect a b).w, .int .i64 (isect a b).h]) ∧ Below w.heap.size w w' := by
  by_cases ha : a.ok
  · by_cases hb : b.ok
    · exact isectI_ok a b ha hb w
    · exact isectI_bad a b (.inr ⟨ha, hb⟩) w
  · exact isectI_bad a b (.inl ha) w
end Go.Proofs.Ytjjamdibgjeokaa
namespace Go.Proofs.Ytjjamdibgjeokaa
open Go.RowKit
set_option maxHeartbeats 400000 in
theorem isectS_bad (a b : Rc) (h : ¬ a.ok ∨ a.ok ∧ ¬ b.ok) (w : World) :
    Calls Try.prog 112 #[.agg #[.int .i64 a.x, .int .i64 a.y, .int .i64 a.w, .int .i64 a.h], .agg #[.int .i64 b.x, .int .i64 b.y, .int .i64 b.w, .int .i64 b.h]] w
      fun e w' => e = .returned (.agg #[.int .i64 (isect a b).x, .int .i64 (isect a b).y, .int .i64 (isect a b).w, .int .i64 (isect a b).h]) ∧ Below w.heap.size w w' := by
  have H0 : Hid (isect a b = ⟨0, 0, 0, 0⟩) := isect_no (by rintro ⟨h1, h2, h3⟩; rcases h with h | ⟨h, h'⟩ <;> contradiction)
  rcases h with h | ⟨h, h'⟩
  · have Ha := Lib.hid h
    clear h
    go_enter Try.func112, Try.ntmps112
    go_wp2_with fail
    refine (rectOkS_no a Ha.out _).mono ?_
    rintro e w1 ⟨rfl, hb⟩
    obtain ⟨hc, hf⟩ := bcell hb
    have hz : w.heap.size + 1 + 1 < w1.heap.size := by have := hb.size; simp at this; omega
    go_wp2_with fail
    exact bodyPost_ret (v := .agg #[.int .i64 0, .int .i64 0, .int .i64 0, .int .i64 0]) (by simp [results, Try.results112, go_sem, hc]) rfl ⟨ret_rc H0.out, (((((((((Below.refl _ _).alloc (Nat.le_refl _) _).alloc (by simp) _).alloc (by simp; omega) _).trans (hb.mono (by simp; omega))).setCell (by simp; omega) _).setCell (by simp; omega) _).setCell (by simp; omega) _).setCell (by simp; omega) _)⟩
  · have Ha := Lib.hid h
    have Hb := Lib.hid h'
    clear h h'
    go_enter Try.func112, Try.ntmps112
    go_wp2_with fail
    refine (rectOkS_yes a Ha.out _).mono ?_
    rintro e w1 ⟨rfl, hb⟩
    obtain ⟨hc, hf⟩ := bcell hb
    have hz : w.heap.size + 1 + 1 < w1.heap.size := by have := hb.size; simp at this; omega
    go_wp2_with fail
    refine (rectOkS_no b Hb.out _).mono ?_
    rintro e w2 ⟨rfl, hb2⟩
    obtain ⟨hc2, hf2⟩ := bcell hb2
    have hz2 : w.heap.size + 1 + 1 < w2.heap.size := by have := hb2.size; omega
    go_wp2_with fail
    exact bodyPost_ret (v := .agg #[.int .i64 0, .int .i64 0, .int .i64 0, .int .i64 0]) (by simp [results, Try.results112, go_sem, hc, hz, hc2]) rfl ⟨ret_rc H0.out, ((((((((((Below.refl _ _).alloc (Nat.le_refl _) _).alloc (by simp) _).alloc (by simp; omega) _).trans (hb.mono (by simp; omega))).trans (hb2.mono (by omega))).setCell (by simp; omega) _).setCell (by simp; omega) _).setCell (by simp; omega) _).setCell (by simp; omega) _)⟩
set_option maxHeartbeats 2000000 in
theorem isectS_ok (a b : Rc) (ha : a.ok) (hb : b.ok) (w : World) :
    Calls Try.prog 112 #[.agg #[.int .i64 a.x, .int .i64 a.y, .int .i64 a.w, .int .i64 a.h], .agg #[.int .i64 b.x, .int .i64 b.y, .int .i64 b.w, .int .i64 b.h]] w
      fun e w' => e = .returned (.agg #[.int .i64 (isect a b).x, .int .i64 (isect a b).y, .int .i64 (isect a b).w, .int .i64 (isect a b).h]) ∧ Below w.heap.size w w' := by
  have Ha := Lib.hid ha
  have Hb := Lib.hid hb
  have hbd := isect_bd a b ha hb
  have Hbd := Lib.hid hbd
  clear ha hb hbd
  go_enter Try.func112, Try.ntmps112
  go_wp2_with fail
  refine (rectOkS_yes a Ha.out _).mono ?_
  rintro e w1 ⟨rfl, hb⟩
  obtain ⟨hc, hf⟩ := bcell hb
  have hz : w.heap.size + 1 + 1 < w1.heap.size := by have := hb.size; simp at this; omega
  go_wp2_with fail
  refine (rectOkS_yes b Hb.out _).mono ?_
  rintro e w2 ⟨rfl, hb2⟩
  obtain ⟨hc2, hf2⟩ := bcell hb2
  have hz2 : w.heap.size + 1 + 1 < w2.heap.size := by have := hb2.size; omega
  have hA : RcAt w2 w.heap.size a := (((((RcAt.new w a).alloc _).alloc _).below hb (by simp; omega))).below hb2 (by omega)
  have hB : RcAt w2 (w.heap.size + 1) b := (((RcAt.newAt (by simp) b).alloc _).below hb (by simp)).below hb2 (by omega)
  have hR : RcAt w2 (w.heap.size + 1 + 1) ⟨0, 0, 0, 0⟩ := ((RcAt.newAt (by simp) ⟨0, 0, 0, 0⟩).below hb (by simp)).below hb2 (by omega)
  have hw : Below w.heap.size w w2 := ((((((Below.refl _ _).alloc (Nat.le_refl _) _).alloc (by simp) _).alloc (by simp; omega) _).trans (hb.mono (by simp; omega))).trans (hb2.mono (by omega)))
  clear hc hc2 hf hf2 hb hb2 hz
  have HA := Lib.hid hA
  have HB := Lib.hid hB
  have HR := Lib.hid hR
  obtain ⟨a0, a1, a2, a3⟩ := hA.cells
  obtain ⟨b0, b1, b2, b3⟩ := hB.cells
  clear hA hB hR
  obtain ⟨r0, r1, r2, r3⟩ := HR.out.cells
  have rf := HR.out.frozen
  obtain ⟨X, hX⟩ : ∃ X, X = max a.x b.x := ⟨_, rfl⟩
  obtain ⟨X', hX'⟩ : ∃ N, N = min (a.x + a.w) (b.x + b.w) := ⟨_, rfl⟩
  have rX : (if a.x < b.x then b.x else a.x) = X := by rw [hX]; split <;> omega
  have rX' : (if b.x + b.w < a.x + a.w then b.x + b.w else a.x + a.w) = X' := by rw [hX']; split <;> omega
  have HX := Lib.hid hX
  have HX' := Lib.hid hX'
  clear hX hX'
  obtain ⟨Y, hY⟩ : ∃ Y, Y = max a.y b.y := ⟨_, rfl⟩
  obtain ⟨Y', hY'⟩ : ∃ N, N = min (a.y + a.h) (b.y + b.h) := ⟨_, rfl⟩
  have rY : (if a.y < b.y then b.y else a.y) = Y := by rw [hY]; split <;> omega
  have rY' : (if b.y + b.h < a.y + a.h then b.y + b.h else a.y + a.h) = Y' := by rw [hY']; split <;> omega
  have HY := Lib.hid hY
  have HY' := Lib.hid hY'
  clear hY hY'
  have cc : -1000 ≤ X ∧ X ≤ 1000 ∧ -1000 ≤ Y ∧ Y ≤ 1000 ∧ -1000 ≤ X' ∧ X' ≤ 2000 ∧ -1000 ≤ Y' ∧ Y' ≤ 2000 := by
    have := HX.out; have := HX'.out; have := HY.out; have := HY'.out; have := Hbd.out; omega
  obtain ⟨c1, c2, c3, c4, c5, c6, c7, c8⟩ := cc
  have bb : (-2000 ≤ a.x + a.w ∧ a.x + a.w ≤ 2000 ∧ -2000 ≤ a.y + a.h ∧ a.y + a.h ≤ 2000) ∧ (-2000 ≤ b.x + b.w ∧ b.x + b.w ≤ 2000 ∧ -2000 ≤ b.y + b.h ∧ b.y + b.h ≤ 2000) := by
    have h1 := Ha.out; have h2 := Hb.out; unfold Rc.ok at h1 h2; omega
  obtain ⟨⟨d1, d2, d3, d4⟩, d5, d6, d7, d8⟩ := bb
  by_cases h1 : X' - X ≤ 0
  · go_wp2_with fail
    exact bodyPost_ret (v := .agg #[.int .i64 0, .int .i64 0, .int .i64 0, .int .i64 0]) (by simp [results, Try.results112, go_sem, r0, r1, r2, r3]) rfl ⟨ret_rc (isect_no (by rintro ⟨_, _, h⟩; unfold isectIn at h; have := HX.out; have := HX'.out; have := HY.out; have := HY'.out; omega)), ((((hw.setCell (by simp; omega) _).setCell (by simp; omega) _).setCell (by simp; omega) _).setCell (by simp; omega) _)⟩
  · by_cases h2 : Y' - Y ≤ 0
    · go_wp2_with fail
      exact bodyPost_ret (v := .agg #[.int .i64 0, .int .i64 0, .int .i64 0, .int .i64 0]) (by simp [results, Try.results112, go_sem, r0, r1, r2, r3]) rfl ⟨ret_rc (isect_no (by rintro ⟨_, _, h⟩; unfold isectIn at h; have := HX.out; have := HX'.out; have := HY.out; have := HY'.out; omega)), ((((hw.setCell (by simp; omega) _).setCell (by simp; omega) _).setCell (by simp; omega) _).setCell (by simp; omega) _)⟩
    · go_wp2_with fail
      exact bodyPost_ret (v := .agg #[.int .i64 X, .int .i64 Y, .int .i64 (X' - X), .int .i64 (Y' - Y)]) (by first | (simp [results, Try.results112, go_sem, r0, r1, r2, r3]; done) | (simp [results, Try.results112, go_sem, r0, r1, r2, r3, HX.out, HX'.out, HY.out, HY'.out]; done)) rfl ⟨ret_rc ((isect_yes Ha.out Hb.out (by unfold isectIn; have := HX.out; have := HX'.out; have := HY.out; have := HY'.out; omega)).trans (by unfold isectRaw; rw [← HX.out, ← HY.out, ← HX'.out, ← HY'.out])), ((((hw.setCell (by simp; omega) _).setCell (by simp; omega) _).setCell (by simp; omega) _).setCell (by simp; omega) _)⟩
theorem isectS_any (a b : Rc) (w : World) :
    Calls Try.prog 112 #[.agg #[.int .i64 a.x, .int .i64 a.y, .int .i64 a.w, .int .i64 a.h], .agg #[.int .i64 b.x, .int .i64 b.y, .int .i64 b.w, .int .i64 b.h]] w
      fun e w' => e = .returned (.agg #[.int .i64 (isect a b).x, .int .i64 (isect a b).y, .int .i64 (isect a b).w, .int .i64 (isect a b).h]) ∧ Below w.heap.size w w' := by
  by_cases ha : a.ok
  · by_cases hb : b.ok
    · exact isectS_ok a b ha hb w
    · exact isectS_bad a b (.inr ⟨ha, hb⟩) w
  · exact isectS_bad a b (.inl ha) w
end Go.Proofs.Ytjjamdibgjeokaa
namespace Go.Proofs.Ytjjamdibgjeokaa
open Go.RowKit
instance (r : Rc) : Decidable r.ok := by unfold Rc.ok; infer_instance
/-- Whether a valid rectangle contains a point. -/
def hasB (r : Rc) (x y : Int) : Bool := decide (r.ok ∧ r.x ≤ x ∧ x < r.x + r.w ∧ r.y ≤ y ∧ y < r.y + r.h)
theorem has_yes {r : Rc} {x y : Int} (h : r.ok ∧ r.x ≤ x ∧ x < r.x + r.w ∧ r.y ≤ y ∧ y < r.y + r.h) : hasB r x y = true := decide_eq_true h
theorem has_no {r : Rc} {x y : Int} (h : ¬ (r.ok ∧ r.x ≤ x ∧ x < r.x + r.w ∧ r.y ≤ y ∧ y < r.y + r.h)) : hasB r x y = false := decide_eq_false h
theorem hasI_bad (r : Rc) (hr : ¬ r.ok) (x y : Int) (w : World) :
    Calls Try.prog 15 #[.agg #[.int .i64 r.x, .int .i64 r.y, .int .i64 r.w, .int .i64 r.h], .int .i64 x, .int .i64 y] w fun e w' => e = .returned (.bool (hasB r x y)) ∧ Below w.heap.size w w' := by
  have Hr := Lib.hid hr
  clear hr
  go_enter Try.func15, Try.ntmps15
  go_wp2_with fail
  refine (rectOkI_no r Hr.out _).mono ?_
  rintro e w1 ⟨rfl, hb1⟩
  go_wp2_with fail
  go_ret
  exact ⟨ret_bool (has_no (fun h => Hr.out h.1)).symm, (((Below.refl _ _).alloc (Nat.le_refl _) _)).trans (hb1.mono (by first | (simp; done) | (simp; omega)))⟩
set_option maxHeartbeats 1000000 in
theorem hasI_ok (r : Rc) (hr : r.ok) (x y : Int) (w : World) :
    Calls Try.prog 15 #[.agg #[.int .i64 r.x, .int .i64 r.y, .int .i64 r.w, .int .i64 r.h], .int .i64 x, .int .i64 y] w fun e w' => e = .returned (.bool (hasB r x y)) ∧ Below w.heap.size w w' := by
  have Hr := Lib.hid hr
  obtain ⟨h1, h2, h3, h4, h5, h6, h7, h8⟩ := hr
  obtain hcs | ⟨hcs, hc1⟩ | ⟨hcs, hc1, hc2⟩ | ⟨hcs, hc1, hc2, hc3⟩ | ⟨hcs, hc1, hc2, hc3⟩ : x < r.x ∨ (r.x ≤ x ∧ r.x + r.w ≤ x) ∨ (r.x ≤ x ∧ x < r.x + r.w ∧ y < r.y) ∨ (r.x ≤ x ∧ x < r.x + r.w ∧ r.y ≤ y ∧ r.y + r.h ≤ y) ∨ (r.x ≤ x ∧ x < r.x + r.w ∧ r.y ≤ y ∧ y < r.y + r.h) := by omega
  all_goals
    go_enter Try.func15, Try.ntmps15
    go_wp2_with fail
    refine (rectOkI_yes r Hr.out _).mono ?_
    rintro e w1 ⟨rfl, hb1⟩
    obtain ⟨hc, hf⟩ := bcell hb1
    have hz : w.heap.size < w1.heap.size := by have := hb1.size; simp at this; omega
    have hw : Below w.heap.size w w1 := (((Below.refl _ _).alloc (Nat.le_refl _) _)).trans (hb1.mono (by first | (simp; done) | (simp; omega)))
    go_wp2_with (first | (go_at_call 57; (with_reducible refine (rightOf_any r Hr.out _).mono ?_); rintro e w' ⟨rfl, rfl⟩) | (go_at_call 58; (with_reducible refine (bottomOf_any r Hr.out _).mono ?_); rintro e w' ⟨rfl, rfl⟩))
    go_ret
    first
    | exact ⟨ret_bool (has_yes ⟨Hr.out, by omega, by omega, by omega, by omega⟩).symm, by (first | exact hw | exact hw.alloc hw.size _ | exact (hw.alloc hw.size _).alloc (by have := hw.size; simp; omega) _)⟩
    | exact ⟨ret_bool ((decide_eq_true (by omega)).trans (has_yes ⟨Hr.out, by omega, by omega, by omega, by omega⟩).symm), by (first | exact hw | exact hw.alloc hw.size _ | exact (hw.alloc hw.size _).alloc (by have := hw.size; simp; omega) _)⟩
    | exact ⟨ret_bool (has_no (fun h => by omega)).symm, by (first | exact hw | exact hw.alloc hw.size _ | exact (hw.alloc hw.size _).alloc (by have := hw.size; simp; omega) _)⟩
    | exact ⟨ret_bool ((decide_eq_false (by omega)).trans (has_no (fun h => by omega)).symm), by (first | exact hw | exact hw.alloc hw.size _ | exact (hw.alloc hw.size _).alloc (by have := hw.size; simp; omega) _)⟩
theorem hasI_any (r : Rc) (x y : Int) (w : World) :
    Calls Try.prog 15 #[.agg #[.int .i64 r.x, .int .i64 r.y, .int .i64 r.w, .int .i64 r.h], .int .i64 x, .int .i64 y] w fun e w' => e = .returned (.bool (hasB r x y)) ∧ Below w.heap.size w w' := by
  by_cases hr : r.ok
  · exact hasI_ok r hr x y w
  · exact hasI_bad r hr x y w
end Go.Proofs.Ytjjamdibgjeokaa
namespace Go.Proofs.Ytjjamdibgjeokaa
open Go.RowKit
theorem chan_no {p k : Int} (h : ¬ (pixOk p ∧ 0 ≤ k ∧ k ≤ 3)) : chan p k = -1 := if_neg h
theorem chan_0 {p : Int} (h : pixOk p) : chan p 0 = p / 16777216 := by unfold chan; rw [if_pos ⟨h, by omega, by omega⟩]; rfl
theorem chan_1 {p : Int} (h : pixOk p) : chan p 1 = p / 65536 % 256 := by unfold chan; rw [if_pos ⟨h, by omega, by omega⟩]; rfl
theorem chan_2 {p : Int} (h : pixOk p) : chan p 2 = p / 256 % 256 := by unfold chan; rw [if_pos ⟨h, by omega, by omega⟩]; rfl
theorem chan_3 {p : Int} (h : pixOk p) : chan p 3 = p % 256 := by unfold chan; rw [if_pos ⟨h, by omega, by omega⟩]; rfl
theorem chS_in (p k : Int) (h : pixOk p) (h0 : 0 ≤ k) (h1 : k ≤ 3) (w : World) :
    Calls Try.prog 60 #[.int .i64 p, .int .i64 k] w fun e w' => e = .returned (.int .i64 (chan p k)) ∧ w = w' := by
  have H := Lib.hid h
  obtain ⟨p0, p1⟩ := h
  obtain rfl | rfl | rfl | rfl : k = 0 ∨ k = 1 ∨ k = 2 ∨ k = 3 := by omega
  all_goals
    go_enter Try.func60, Try.ntmps60
    go_wp2_with fail
    refine (pixS_yes p H.out _).mono ?_
    rintro e w' ⟨rfl, rfl⟩
    go_wp2_with fail
    refine (inS_yes _ 0 3 _ (by omega) (by omega)).mono ?_
    rintro e w' ⟨rfl, rfl⟩
    go_wp2
    go_ret
  · exact ⟨ret_int (by rw [chan_0 H.out, and255 _ (by omega) (by omega)]; omega), rfl⟩
  · exact ⟨ret_int (by rw [chan_1 H.out, and255 _ (by omega) (by omega)]), rfl⟩
  · exact ⟨ret_int (by rw [chan_2 H.out, and255 _ (by omega) (by omega)]), rfl⟩
  · exact ⟨ret_int (by rw [chan_3 H.out, and255 _ (by omega) (by omega)]), rfl⟩
theorem chS_any (p k : Int) (w : World) :
    Calls Try.prog 60 #[.int .i64 p, .int .i64 k] w fun e w' => e = .returned (.int .i64 (chan p k)) ∧ w = w' := by
  by_cases hp : pixOk p
  · by_cases hk : 0 ≤ k ∧ k ≤ 3
    · exact chS_in p k hp hk.1 hk.2 w
    · have Hn : Hid (chan p k = -1) := chan_no fun h => hk h.2
      have Hp := Lib.hid hp
      have hk' : k < 0 ∨ 3 < k := by omega
      have Hk := Lib.hid hk'
      clear hk hk' hp
      go_enter Try.func60, Try.ntmps60
      go_wp2_with fail
      refine (pixS_yes p Hp.out _).mono ?_
      rintro e w' ⟨rfl, rfl⟩
      go_wp2_with fail
      refine (inS_no _ 0 3 _ Hk.out).mono ?_
      rintro e w' ⟨rfl, rfl⟩
      go_wp2
      go_ret
      exact ⟨ret_int Hn.out.symm, rfl⟩
  · have Hn : Hid (chan p k = -1) := chan_no fun h => hp h.1
    have Hp := Lib.hid hp
    clear hp
    go_enter Try.func60, Try.ntmps60
    go_wp2_with fail
    refine (pixS_no p Hp.out _).mono ?_
    rintro e w' ⟨rfl, rfl⟩
    go_wp2
    go_ret
    exact ⟨ret_int Hn.out.symm, rfl⟩
theorem fadeS_in (p al : Int) (hp : pixOk p) (ha : chOk al) (w : World) :
    Calls Try.prog 139 #[.int .i64 p, .int .i64 al] w fun e w' => e = .returned (.int .i64 (fade p al)) ∧ w = w' := by
  have Hn : Hid (fade p al = fadeK p al) := if_pos ⟨hp, ha⟩
  obtain ⟨x, hx⟩ : ∃ x, x = pxPart (p / 16777216) al := ⟨_, rfl⟩
  obtain ⟨x0, x1⟩ : chOk x := by rw [hx]; exact part_ok (ch_0 hp) ha
  have hP := partS_ok (p / 16777216) al (ch_0 hp) ha
  have hC := chS_in p 0 hp (by omega) (by omega)
  rw [chan_0 hp] at hC
  rw [← hx] at hP
  have HP := Lib.hid hP
  have HC := Lib.hid hC
  have HX := Lib.hid hx
  have Hp := Lib.hid hp
  have Ha := Lib.hid ha
  have hm : bits .and .i64 p 16777215 = p % 16777216 := and24 p hp.1 (by have := hp.2; omega)
  clear hP hC hx hp ha
  go_enter Try.func139, Try.ntmps139
  go_wp2_with fail
  refine (pixS_yes p Hp.out _).mono ?_
  rintro e w' ⟨rfl, rfl⟩
  go_wp2_with fail
  refine (inS_yes _ 0 255 _ Ha.out.1 Ha.out.2).mono ?_
  rintro e w' ⟨rfl, rfl⟩
  go_wp2_with fail
  refine (HC.out _).mono ?_
  rintro e w' ⟨rfl, rfl⟩
  go_wp2_with fail
  refine (HP.out _).mono ?_
  rintro e w' ⟨rfl, rfl⟩
  go_wp2
  go_ret
  exact ⟨ret_int (by rw [Hn.out]; unfold fadeK pack4; rw [← HX.out]; omega), rfl⟩
theorem fadeS_any (p al : Int) (w : World) :
    Calls Try.prog 139 #[.int .i64 p, .int .i64 al] w fun e w' => e = .returned (.int .i64 (fade p al)) ∧ w = w' := by
  by_cases hp : pixOk p
  · by_cases ha : chOk al
    · exact fadeS_in p al hp ha w
    · have Hn : Hid (fade p al = -1) := if_neg fun h => ha h.2
      have Hp := Lib.hid hp
      have Ha := Lib.hid ha
      clear hp ha
      go_enter Try.func139, Try.ntmps139
      go_wp2_with fail
      refine (pixS_yes p Hp.out _).mono ?_
      rintro e w' ⟨rfl, rfl⟩
      go_wp2_with fail
      refine (inS_no _ 0 255 _ (ch_no Ha.out)).mono ?_
      rintro e w' ⟨rfl, rfl⟩
      go_wp2
      go_ret
      exact ⟨ret_int Hn.out.symm, rfl⟩
  · have Hn : Hid (fade p al = -1) := if_neg fun h => hp h.1
    have Hp := Lib.hid hp
    clear hp
    go_enter Try.func139, Try.ntmps139
    go_wp2_with fail
    refine (pixS_no p Hp.out _).mono ?_
    rintro e w' ⟨rfl, rfl⟩
    go_wp2
    go_ret
    exact ⟨ret_int Hn.out.symm, rfl⟩
end Go.Proofs.Ytjjamdibgjeokaa
namespace Go.Proofs.Ytjjamdibgjeokaa
open Go.RowKit
theorem packedI (a r g b : Int) (ha : chOk a) (hr : chOk r) (hg : chOk g) (hb : chOk b) (w : World) :
    Calls Try.prog 105 #[.agg #[.int .i64 a, .int .i64 r, .int .i64 g, .int .i64 b]] w fun e w' => e = .returned (.int .i64 (pack4 a r g b)) ∧ Below w.heap.size w w' := by
  have hp := packed_bits a r g b ha hr hg hb
  obtain ⟨a0, a1⟩ := ha
  obtain ⟨r0, r1⟩ := hr
  obtain ⟨g0, g1⟩ := hg
  obtain ⟨b0, b1⟩ := hb
  go_enter Try.func105, Try.ntmps105
  go_wp2
  go_ret
  exact ⟨rfl, (Below.refl _ _).alloc (Nat.le_refl _) _⟩
theorem unpackedI (p : Int) (h : pixOk p) (w : World) :
    Calls Try.prog 103 #[.int .i64 p] w
      fun e w' => e = .returned (.agg #[.int .i64 (p / 16777216), .int .i64 (p / 65536 % 256), .int .i64 (p / 256 % 256), .int .i64 (p % 256)]) ∧ Below w.heap.size w w' := by
  obtain ⟨p0, p1⟩ := h
  have e1 : bits .and .i64 (p / 65536) 255 = p / 65536 % 256 := and255 _ (by omega) (by omega)
  have e2 : bits .and .i64 (p / 256) 255 = p / 256 % 256 := and255 _ (by omega) (by omega)
  have e3 : bits .and .i64 p 255 = p % 256 := and255 _ (by omega) (by omega)
  go_enter Try.func103, Try.ntmps103
  go_wp2
  exact bodyPost_ret (v := .agg #[.int .i64 (p / 16777216), .int .i64 (p / 65536 % 256), .int .i64 (p / 256 % 256), .int .i64 (p % 256)]) (by simp [results, Try.results103, go_sem]) rfl ⟨rfl, by
      repeat first | exact Below.refl _ _ | refine Below.setCell ?_ (by first | (simp; done) | (simp; omega)) _ | refine Below.alloc ?_ (by first | (simp; done) | (simp; omega)) _⟩
theorem ix0 (a b c d : Value) (W : World) : (Instr.index 128 (.agg #[a, b, c, d]) (.int .i64 0)).run Try.prog W = .ok a W := by kernel_rfl
theorem ix1 (a b c d : Value) (W : World) : (Instr.index 128 (.agg #[a, b, c, d]) (.int .i64 1)).run Try.prog W = .ok b W := by kernel_rfl
theorem ix2 (a b c d : Value) (W : World) : (Instr.index 128 (.agg #[a, b, c, d]) (.int .i64 2)).run Try.prog W = .ok c W := by kernel_rfl
theorem ix3 (a b c d : Value) (W : World) : (Instr.index 128 (.agg #[a, b, c, d]) (.int .i64 3)).run Try.prog W = .ok d W := by kernel_rfl
theorem chI_in (p k : Int) (h : pixOk p) (h0 : 0 ≤ k) (h1 : k ≤ 3) (w : World) :
    Calls Try.prog 117 #[.int .i64 p, .int .i64 k] w fun e w' => e = .returned (.int .i64 (chan p k)) ∧ Below w.heap.size w w' := by
  have H := Lib.hid h
  clear h
  obtain rfl | rfl | rfl | rfl : k = 0 ∨ k = 1 ∨ k = 2 ∨ k = 3 := by omega
  all_goals
    go_enter Try.func117, Try.ntmps117
    go_wp2_with fail
    refine (pixI_yes p H.out _).mono ?_
    rintro e w' ⟨rfl, rfl⟩
    go_wp2_with fail
    refine (inI_yes _ 0 3 _ (by omega) (by omega)).mono ?_
    rintro e w' ⟨rfl, rfl⟩
    go_wp2_with fail
    refine (unpackedI p H.out _).mono ?_
    rintro e w' ⟨rfl, hb⟩
    have x0 := ix0
    have x1 := ix1
    have x2 := ix2
    have x3 := ix3
    go_wp2
    go_ret
  · exact ⟨ret_int (chan_0 H.out).symm, hb⟩
  · exact ⟨ret_int (chan_1 H.out).symm, hb⟩
  · exact ⟨ret_int (chan_2 H.out).symm, hb⟩
  · exact ⟨ret_int (chan_3 H.out).symm, hb⟩
theorem chI_any (p k : Int) (w : World) :
    Calls Try.prog 117 #[.int .i64 p, .int .i64 k] w fun e w' => e = .returned (.int .i64 (chan p k)) ∧ Below w.heap.size w w' := by
  by_cases hp : pixOk p
  · by_cases hk : 0 ≤ k ∧ k ≤ 3
    · exact chI_in p k hp hk.1 hk.2 w
    · have Hn : Hid (chan p k = -1) := chan_no fun h => hk h.2
      have Hp := Lib.hid hp
      have hk' : k < 0 ∨ 3 < k := by omega
      have Hk := Lib.hid hk'
      clear hk hk' hp
      go_enter Try.func117, Try.ntmps117
      go_wp2_with fail
      refine (pixI_yes p Hp.out _).mono ?_
      rintro e w' ⟨rfl, rfl⟩
      go_wp2_with fail
      refine (inI_no _ 0 3 _ Hk.out).mono ?_
      rintro e w' ⟨rfl, rfl⟩
      go_wp2
      go_ret
      exact ⟨ret_int Hn.out.symm, Below.refl _ _⟩
  · have Hn : Hid (chan p k = -1) := chan_no fun h => hp h.1
    have Hp := Lib.hid hp
    clear hp
    go_enter Try.func117, Try.ntmps117
    go_wp2_with fail
    refine (pixI_no p Hp.out _).mono ?_
    rintro e w' ⟨rfl, rfl⟩
    go_wp2
    go_ret
    exact ⟨ret_int Hn.out.symm, Below.refl _ _⟩
end Go.Proofs.Ytjjamdibgjeokaa
namespace Go.Proofs.Ytjjamdibgjeokaa
theorem isect_cases (a b : Rc) (ha : a.ok) (hb : b.ok) : (isectIn a b ∧ isect a b = isectRaw a b) ∨ (¬ isectIn a b ∧ isect a b = ⟨0, 0, 0, 0⟩) := by
  by_cases h : isectIn a b
  · exact .inl ⟨h, isect_yes ha hb h⟩
  · exact .inr ⟨h, isect_no (fun k => h k.2.2)⟩
end Go.Proofs.Ytjjamdibgjeokaa
namespace Go.Proofs.Ytjjamdibgjeokaa
open Go.RowKit
theorem RcAt.cells4 {w : World} {g : Nat} {x y u v : Int} (h : RcAt w g ⟨x, y, u, v⟩) :
    w.cell? ⟨g, 0, none⟩ = some (.int .i64 x) ∧ w.cell? ⟨g, 1, none⟩ = some (.int .i64 y) ∧ w.cell? ⟨g, 2, none⟩ = some (.int .i64 u) ∧ w.cell? ⟨g, 3, none⟩ = some (.int .i64 v) := h.cells
theorem new_cell (w : World) (v : Value) (t : TypeId) : (w.alloc (.cells #[v] t)).cell? ⟨w.heap.size, 0, none⟩ = some v := by
  rw [cell_of_row _ _ _ _ _ _ (heap_alloc_new w _)]; rfl
def rcCells (r : Rc) : List Value := [.int .i64 r.x, .int .i64 r.y, .int .i64 r.w, .int .i64 r.h]
def rcsCells (L : List Rc) : List Value := L.flatMap rcCells
theorem rcsCells_length (L : List Rc) : (rcsCells L).length = L.length * 4 := by
  induction L with
  | nil => rfl
  | cons r L ih => rw [rcsCells, List.flatMap_cons, List.length_append, List.length_cons]; rw [rcsCells] at ih; rw [ih]; simp [rcCells]; omega
theorem rcsCells_append (L M : List Rc) : rcsCells (L ++ M) = rcsCells L ++ rcsCells M := by simp [rcsCells]
theorem rcsCells_nil : rcsCells [] = [] := rfl
theorem rcsCells_one (r : Rc) : rcsCells [r] = rcCells r := by simp [rcsCells]
theorem rcs_get (L : List Rc) (k j : Nat) (r : Rc) (h : L[k]? = some r) (hj : j < 4) : (rcsCells L)[k * 4 + j]? = (rcCells r)[j]? := by
  induction L generalizing k with
  | nil => simp at h
  | cons s L ih =>
    have e : rcsCells (s :: L) = rcCells s ++ rcsCells L := by simp [rcsCells]
    rw [e]
    cases k with
    | zero =>
      simp at h
      subst h
      rw [Nat.zero_mul, Nat.zero_add, List.getElem?_append_left (by simp [rcCells]; omega)]
    | succ k =>
      rw [List.getElem?_append_right (by simp [rcCells]; omega)]
      simp only [List.getElem?_cons_succ] at h
      rw [← ih k h]
      congr 1
      simp [rcCells]; omega
theorem rcs_one (L : List Rc) : ∀ v ∈ rcsCells L, v.oneCell' = true := by
  intro v hv
  simp only [rcsCells, List.mem_flatMap, rcCells] at hv
  obtain ⟨r, _, hv⟩ := hv
  simp at hv
  rcases hv with rfl | rfl | rfl | rfl <;> rfl
/-- The four cells from offset o of block g on hold r. -/
structure C4 (w : World) (g o : Nat) (r : Rc) : Prop where
  c0 : w.cell? ⟨g, o, none⟩ = some (.int .i64 r.x)
  c1 : w.cell? ⟨g, o + 1, none⟩ = some (.int .i64 r.y)
  c2 : w.cell? ⟨g, o + 2, none⟩ = some (.int .i64 r.w)
  c3 : w.cell? ⟨g, o + 3, none⟩ = some (.int .i64 r.h)
theorem C4.cells {w : World} {g o : Nat} {r : Rc} (h : C4 w g o r) :
    w.cell? ⟨g, o, none⟩ = some (.int .i64 r.x) ∧ w.cell? ⟨g, o + 1, none⟩ = some (.int .i64 r.y) ∧ w.cell? ⟨g, o + 2, none⟩ = some (.int .i64 r.w) ∧ w.cell? ⟨g, o + 3, none⟩ = some (.int .i64 r.h) := ⟨h.c0, h.c1, h.c2, h.c3⟩
theorem C4.lt {w : World} {g o : Nat} {r : Rc} (h : C4 w g o r) : g < w.heap.size := World.block_lt_of_cell? w _ h.c0
theorem C4.kept {w w' : World} {g o : Nat} {r : Rc} (h : C4 w g o r) (e : w'.heap[g]? = w.heap[g]?) : C4 w' g o r :=
  ⟨(World.cell?_of_block e).trans h.c0, (World.cell?_of_block e).trans h.c1, (World.cell?_of_block e).trans h.c2, (World.cell?_of_block e).trans h.c3⟩
theorem C4.below {w w' : World} {g o B : Nat} {r : Rc} (h : C4 w g o r) (hb : Below B w w') (hg : g < B) : C4 w' g o r := h.kept (hb.block g hg)
theorem C4.alloc {w : World} {g o : Nat} {r : Rc} (h : C4 w g o r) (x : Obj) : C4 (w.alloc x) g o r := h.kept (Below.heap_alloc w x g h.lt)
theorem C4.call {w w' : World} {g o : Nat} {r : Rc} (h : C4 w g o r) (hb : Below w.heap.size w w') : C4 w' g o r := h.below hb h.lt
theorem C4.drew {w : World} {g o : Nat} {r : Rc} (h : C4 w g o r) : C4 w.drew g o r := ⟨h.c0, h.c1, h.c2, h.c3⟩
theorem C4.far4 {w : World} {g o b : Nat} {r : Rc} (h : C4 w g o r) (hb : g ≠ b) (v0 v1 v2 v3 : Value) :
    C4 ((((w.setCell ⟨b, 0, none⟩ v0).setCell ⟨b, 1, none⟩ v1).setCell ⟨b, 2, none⟩ v2).setCell ⟨b, 3, none⟩ v3) g o r :=
  h.kept ((((Below.heap_setCell _ ⟨b, 3, none⟩ v3 g hb).trans (Below.heap_setCell _ ⟨b, 2, none⟩ v2 g hb)).trans (Below.heap_setCell _ ⟨b, 1, none⟩ v1 g hb)).trans (Below.heap_setCell _ ⟨b, 0, none⟩ v0 g hb))
end Go.Proofs.Ytjjamdibgjeokaa
namespace Go.Proofs.Ytjjamdibgjeokaa
open Go.RowKit
theorem right_nat (X Y W H : Nat) (h1 : X + W ≤ 16) (h2 : Y + H ≤ 16) (w : World) :
    Calls Try.prog 57 #[.agg #[.int .i64 X, .int .i64 Y, .int .i64 W, .int .i64 H]] w fun e w' => e = .returned (.int .i64 (X + W)) ∧ Below w.heap.size w w' := by
  refine (rightOf_any ⟨X, Y, W, H⟩ (by unfold Rc.ok; dsimp only; omega) w).mono ?_
  rintro e w' ⟨rfl, rfl⟩
  exact ⟨rfl, (Below.refl _ _).alloc (Nat.le_refl _) _⟩
theorem bottom_nat (X Y W H : Nat) (h1 : X + W ≤ 16) (h2 : Y + H ≤ 16) (w : World) :
    Calls Try.prog 58 #[.agg #[.int .i64 X, .int .i64 Y, .int .i64 W, .int .i64 H]] w fun e w' => e = .returned (.int .i64 (Y + H)) ∧ Below w.heap.size w w' := by
  refine (bottomOf_any ⟨X, Y, W, H⟩ (by unfold Rc.ok; dsimp only; omega) w).mono ?_
  rintro e w' ⟨rfl, rfl⟩
  exact ⟨rfl, (Below.refl _ _).alloc (Nat.le_refl _) _⟩
end Go.Proofs.Ytjjamdibgjeokaa
namespace Go.Proofs.Ytjjamdibgjeokaa
theorem run_append_none {P : Program} (w : World) (base : Nat) (t ty e : TypeId) (i : TypeInfo) (size : Nat) (ht : P.underlying t = some (.slice e)) (hi : P.info? e = some i)
    (v : Value) (n : Nat) (xs : List Value) (hown : w.ownsRow base e size v n xs) :
    (Builtin.append_ #[t, t] ty #[v, .slice none 0 0]).run P w = .ok v w := by
  rcases hown.2 with ⟨rfl, rfl⟩ | ⟨g, cap, cur, rfl, _, _, hn, _, _, _⟩
  · simp [Builtin.append_, run_underlying ht, sizeOf, typeInfo, hi, Builtin.lenOf, Builtin.firstCells]
  · simp [Builtin.append_, run_underlying ht, sizeOf, typeInfo, hi, Builtin.lenOf, Builtin.firstCells, loadCells, storeCells, hn]
theorem wpList_append_row {P : Program} {ops : Array Oper} {rest : List Oper} {o : Oper} {a : Act} {w : World} {Q : Exit → Act → World → Prop} (hgd : o.guard = none) (s x : Operand) (t : TypeId)
    (ho : o.op = .call { callee := .builtin .append, args := #[s, x], argTypes := #[t, t] })
    (base base' : Nat) (e : TypeId) (i : TypeInfo) (z : Value) (size bytes : Nat) (ht : P.underlying t = some (.slice e)) (hi : P.info? e = some i) (hz : i.zero = some z)
    (hsize : i.size = size) (hby : i.bytes = bytes) (hzs : z.cells.size = size) (hsz : 0 < size)
    (v : Value) (n : Nat) (xs : List Value) (hs : a.eval s = v) (hown : w.ownsRow base e size v n xs)
    (u : Value) (m : Nat) (news : List Value) (hx : a.eval x = u) (hu : w.ownsRow base' e size u m news) (h1 : ∀ u ∈ news, u.oneCell' = true)
    (h63 : n + m ≤ maxLen) (hbytes : (n + m) * bytes ≤ 140737488355328) (hbase : base ≤ w.heap.size)
    (h : ∀ v' w', w'.ownsRow base e size v' (n + m) (xs ++ news) → w.grownBy w' v.ownBlock → wpList P ops Q rest (a.put o.dst v') w') : wpList P ops Q (o :: rest) a w := by
  rcases hu.2 with ⟨rfl, rfl⟩ | ⟨g, cap, cur, rfl, _, _, hn, _, _, _⟩
  · have hnil : news = [] := List.eq_nil_of_length_eq_zero (by have := hu.1; omega)
    subst hnil
    refine wpList_plain hgd fun K hK => ?_
    have hr := run_append_none w base t o.type e i size ht hi v n xs hown
    unfold Oper.wp execOp
    simp only [ho, resolve, invoke, builtin, Sem.run_bind, Sem.run_pure, Result.andThen_ok, List.map_toArray, List.map_cons, List.map_nil, hs, hx, hr]
    refine hK _ _ (h v w (by simpa using hown) ⟨rfl, rfl, rfl, Nat.le_refl _, fun _ _ _ => rfl⟩)
  · exact wpList_append_own w hgd s x t ho base e i z size bytes ht hi hz hsize hby hzs hsz v n xs hs hown ⟨g, 0, none⟩ m cap news hx hu.1 (hu.cells rfl) h1 h63 hbytes hbase (fun v' w' h2 h3 _ => h v' w' h2 h3)
end Go.Proofs.Ytjjamdibgjeokaa
namespace Go.Proofs.Ytjjamdibgjeokaa
open Go.RowKit
/-- The place that is shown at place k, of f pixels on t. -/
def sclN (f t k : Nat) : Nat := k * f / t
theorem sclN_lt {f t k : Nat} (h1 : 1 ≤ f) (h2 : k < t) : sclN f t k < f := by
  unfold sclN
  exact Nat.div_lt_of_lt_mul (Nat.mul_lt_mul_of_pos_right h2 h1)
theorem scl_num {f t k : Nat} (h1 : 1 ≤ f ∧ f ≤ 16) (h2 : 1 ≤ t ∧ t ≤ 16) (h3 : k < t) :
    ∃ m q : Nat, (k : Int) * (f : Int) = (m : Int) ∧ m ≤ 256 ∧ Int.tdiv (m : Int) (t : Int) = (q : Int) ∧ (m : Int) / (t : Int) = (q : Int) ∧ sclN f t k = q ∧ q < f := by
  refine ⟨k * f, k * f / t, by simp, Nat.mul_le_mul (show k ≤ 16 by omega) h1.2, ?_, by simp, rfl, sclN_lt h1.1 h3⟩
  rw [Int.tdiv_eq_ediv_of_nonneg (by omega)]; simp
theorem scI_yes {f t k : Nat} (h1 : 1 ≤ f ∧ f ≤ 16) (h2 : 1 ≤ t ∧ t ≤ 16) (h3 : k < t) (w : World) : Calls Try.prog 101 #[.int .i64 f, .int .i64 t, .int .i64 k] w fun e w' => e = .returned (.int .i64 (sclN f t k : Nat)) ∧ w = w' := by
  obtain ⟨m, q, hm, m1, d1, d2, hq, q1⟩ := scl_num h1 h2 h3
  have Hq := Lib.hid hq
  obtain ⟨f1, f2⟩ := h1
  obtain ⟨t1, t2⟩ := h2
  have h0 : ¬ (t : Int) = 0 := by omega
  have hk : (k : Int) ≤ (t : Int) - 1 := by omega
  clear hq
  go_enter Try.func101, Try.ntmps101
  go_wp2_with ((go_at_call 97; (with_reducible refine (inI_yes _ _ _ _ (by omega) (by omega)).mono ?_); rintro e w' ⟨rfl, rfl⟩))
  go_ret
  exact ⟨ret_int (by rw [Hq.out]), rfl⟩
theorem scS_yes {f t k : Nat} (h1 : 1 ≤ f ∧ f ≤ 16) (h2 : 1 ≤ t ∧ t ≤ 16) (h3 : k < t) (w : World) : Calls Try.prog 153 #[.int .i64 f, .int .i64 t, .int .i64 k] w fun e w' => e = .returned (.int .i64 (sclN f t k : Nat)) ∧ w = w' := by
  obtain ⟨m, q, hm, m1, d1, d2, hq, q1⟩ := scl_num h1 h2 h3
  have Hq := Lib.hid hq
  obtain ⟨f1, f2⟩ := h1
  obtain ⟨t1, t2⟩ := h2
  have h0 : ¬ (t : Int) = 0 := by omega
  have hk : (k : Int) ≤ (t : Int) - 1 := by omega
  clear hq
  go_enter Try.func153, Try.ntmps153
  go_wp2_with ((go_at_call 82; (with_reducible refine (inS_yes _ _ _ _ (by omega) (by omega)).mono ?_); rintro e w' ⟨rfl, rfl⟩))
  go_ret
  exact ⟨ret_int (by rw [Hq.out]), rfl⟩
end Go.Proofs.Ytjjamdibgjeokaa
namespace Go.Proofs.Ytjjamdibgjeokaa
open Go.RowKit
/-- Block g holds four channels. -/
def ChAt (w : World) (g : Nat) (a b c d : Int) : Prop := w.heap[g]? = some (.cells #[.int .i64 a, .int .i64 b, .int .i64 c, .int .i64 d] 128 (0, 0))
section
variable {w w' : World} {g B : Nat} {a b c d : Int}
theorem ChAt.lt (h : ChAt w g a b c d) : g < w.heap.size := (Array.getElem?_eq_some_iff.1 h).1
theorem ChAt.cells (h : ChAt w g a b c d) :
    w.cell? ⟨g, 0, none⟩ = some (.int .i64 a) ∧ w.cell? ⟨g, 1, none⟩ = some (.int .i64 b) ∧ w.cell? ⟨g, 2, none⟩ = some (.int .i64 c) ∧ w.cell? ⟨g, 3, none⟩ = some (.int .i64 d) := by
  unfold ChAt at h
  refine ⟨?_, ?_, ?_, ?_⟩ <;> simp [World.cell?, h]
theorem ChAt.frozen (h : ChAt w g a b c d) (o : Nat) : w.frozen? ⟨g, o, none⟩ = false := by
  unfold ChAt at h; simp [World.frozen?, h]
theorem ChAt.below (h : ChAt w g a b c d) (hb : Below B w w') (hg : g < B) : ChAt w' g a b c d := (hb.block g hg).trans h
theorem ChAt.call (h : ChAt w g a b c d) (hb : Below w.heap.size w w') : ChAt w' g a b c d := h.below hb h.lt
theorem ChAt.alloc (h : ChAt w g a b c d) (o : Obj) : ChAt (w.alloc o) g a b c d := (Below.heap_alloc w o g h.lt).trans h
theorem ChAt.new (w : World) (a b c d : Int) : ChAt (w.alloc (.cells #[.int .i64 a, .int .i64 b, .int .i64 c, .int .i64 d] 128)) w.heap.size a b c d := heap_alloc_new w _
theorem ChAt.newAt (h : w.heap.size = g) (a b c d : Int) : ChAt (w.alloc (.cells #[.int .i64 a, .int .i64 b, .int .i64 c, .int .i64 d] 128)) g a b c d := h ▸ ChAt.new w a b c d
theorem ChAt.drew (h : ChAt w g a b c d) : ChAt w.drew g a b c d := h
theorem ChAt.far (h : ChAt w g a b c d) {p : Addr} (hp : g ≠ p.block) (v : Value) : ChAt (w.setCell p v) g a b c d := (Below.heap_setCell w p v g hp).trans h
theorem ChAt.set1 (h : ChAt w g a b c d) (x : Int) : ChAt (w.setCell ⟨g, 1, none⟩ (.int .i64 x)) g a x c d := by
  unfold ChAt at *; simp [World.setCell, Array.getElem?_modify, h]
theorem ChAt.set2 (h : ChAt w g a b c d) (x : Int) : ChAt (w.setCell ⟨g, 2, none⟩ (.int .i64 x)) g a b x d := by
  unfold ChAt at *; simp [World.setCell, Array.getElem?_modify, h]
theorem ChAt.set3 (h : ChAt w g a b c d) (x : Int) : ChAt (w.setCell ⟨g, 3, none⟩ (.int .i64 x)) g a b c x := by
  unfold ChAt at *; simp [World.setCell, Array.getElem?_modify, h]
end
theorem px_call {a w w' : World} (h : Below a.heap.size a w) (hb : Below w.heap.size w w') : Below a.heap.size a w' := h.trans (hb.mono h.size)
end Go.Proofs.Ytjjamdibgjeokaa
namespace Go.Proofs.Ytjjamdibgjeokaa
open Go.RowKit
theorem fadeI_in (p al : Int) (hp : pixOk p) (ha : chOk al) (w : World) :
    Calls Try.prog 55 #[.int .i64 p, .int .i64 al] w fun e w' => e = .returned (.int .i64 (fade p al)) ∧ Below w.heap.size w w' := by
  have Hn : Hid (fade p al = fadeK p al) := if_pos ⟨hp, ha⟩
  obtain ⟨c0, h0⟩ : ∃ x, x = p / 16777216 := ⟨_, rfl⟩
  obtain ⟨c1, h1⟩ : ∃ x, x = p / 65536 % 256 := ⟨_, rfl⟩
  obtain ⟨c2, h2⟩ : ∃ x, x = p / 256 % 256 := ⟨_, rfl⟩
  obtain ⟨c3, h3⟩ : ∃ x, x = p % 256 := ⟨_, rfl⟩
  have HU := Lib.hid (unpackedI p hp)
  have Hc0 : Hid (chOk c0) := by rw [h0]; exact ch_0 hp
  have Hc1 : Hid (chOk c1) := by rw [h1]; exact ch_1 p
  have Hc2 : Hid (chOk c2) := by rw [h2]; exact ch_2 p
  have Hc3 : Hid (chOk c3) := by rw [h3]; exact ch_3 p
  rw [fadeK, ← h0, ← h1, ← h2, ← h3] at Hn
  rw [← h0, ← h1, ← h2, ← h3] at HU
  have HP := Lib.hid (partI_ok c0 al Hc0.out ha)
  have Hx := Lib.hid (part_ok Hc0.out ha)
  obtain ⟨x, hx⟩ : ∃ x, x = pxPart c0 al := ⟨_, rfl⟩
  rw [← hx] at HP Hn Hx
  have Hp := Lib.hid hp
  have Ha := Lib.hid ha
  clear h0 h1 h2 h3 hx hp ha
  go_enter Try.func55, Try.ntmps55
  go_wp2_with fail
  refine (pixI_yes p Hp.out _).mono ?_
  rintro e w' ⟨rfl, rfl⟩
  go_wp2_with fail
  refine (inI_yes _ 0 255 _ Ha.out.1 Ha.out.2).mono ?_
  rintro e w' ⟨rfl, rfl⟩
  go_wp2_with fail
  refine (HU.out _).mono ?_
  rintro e w1 ⟨rfl, K⟩
  go_wp2_with fail
  refine (HP.out _).mono ?_
  rintro e w' ⟨rfl, rfl⟩
  go_wp2_with fail
  refine (packedI x c1 c2 c3 Hx.out Hc1.out Hc2.out Hc3.out _).mono ?_
  rintro e w2 ⟨rfl, hb⟩
  go_wp2_with fail
  go_ret
  exact ⟨ret_int Hn.out.symm, px_call (by repeat first | exact K | refine Below.setCell ?_ (by have := K.size; first | (simp; done) | (simp; omega)) _ | refine Below.alloc ?_ (by have := K.size; first | (simp; done) | (simp; omega)) _) hb⟩
theorem fadeI_any (p al : Int) (w : World) :
    Calls Try.prog 55 #[.int .i64 p, .int .i64 al] w fun e w' => e = .returned (.int .i64 (fade p al)) ∧ Below w.heap.size w w' := by
  by_cases hp : pixOk p
  · by_cases ha : chOk al
    · exact fadeI_in p al hp ha w
    · have Hn : Hid (fade p al = -1) := if_neg fun h => ha h.2
      have Hp := Lib.hid hp
      have Ha := Lib.hid ha
      clear hp ha
      go_enter Try.func55, Try.ntmps55
      go_wp2_with fail
      refine (pixI_yes p Hp.out _).mono ?_
      rintro e w' ⟨rfl, rfl⟩
      go_wp2_with fail
      refine (inI_no _ 0 255 _ (ch_no Ha.out)).mono ?_
      rintro e w' ⟨rfl, rfl⟩
      go_wp2
      go_ret
      exact ⟨ret_int Hn.out.symm, Below.refl _ _⟩
  · have Hn : Hid (fade p al = -1) := if_neg fun h => hp h.1
    have Hp := Lib.hid hp
    clear hp
    go_enter Try.func55, Try.ntmps55
    go_wp2_with fail
    refine (pixI_no p Hp.out _).mono ?_
    rintro e w' ⟨rfl, rfl⟩
    go_wp2
    go_ret
    exact ⟨ret_int Hn.out.symm, Below.refl _ _⟩
end Go.Proofs.Ytjjamdibgjeokaa
namespace Go.Proofs.Ytjjamdibgjeokaa
open Go.RowKit
theorem over_no {p q : Int} (h : ¬ (pixOk p ∧ pixOk q)) : over p q = -1 := if_neg h
theorem over_yes {p q : Int} (hp : pixOk p) (hq : pixOk q) : over p q = overK p q := if_pos ⟨hp, hq⟩
set_option maxHeartbeats 600000 in
theorem overS_in (p q : Int) (hp : pixOk p) (hq : pixOk q) (w : World) :
    Calls Try.prog 16 #[.int .i64 p, .int .i64 q] w fun e w' => e = .returned (.int .i64 (over p q)) ∧ w = w' := by
  have Hn : Hid (over p q = overK p q) := over_yes hp hq
  obtain ⟨al, ha⟩ : ∃ x, x = p / 16777216 := ⟨_, rfl⟩
  obtain ⟨x1, hx1⟩ : ∃ x, x = p / 65536 % 256 := ⟨_, rfl⟩
  obtain ⟨x2, hx2⟩ : ∃ x, x = p / 256 % 256 := ⟨_, rfl⟩
  obtain ⟨x3, hx3⟩ : ∃ x, x = p % 256 := ⟨_, rfl⟩
  obtain ⟨y1, hy1⟩ : ∃ x, x = q / 65536 % 256 := ⟨_, rfl⟩
  obtain ⟨y2, hy2⟩ : ∃ x, x = q / 256 % 256 := ⟨_, rfl⟩
  obtain ⟨y3, hy3⟩ : ∃ x, x = q % 256 := ⟨_, rfl⟩
  have hal : chOk al := by rw [ha]; exact ch_0 hp
  have hbl : chOk (255 - al) := by unfold chOk at hal ⊢; omega
  have Cp0 := Lib.hid (chS_in p 0 hp (by omega) (by omega))
  have Cp1 := Lib.hid (chS_in p 1 hp (by omega) (by omega))
  have Cp2 := Lib.hid (chS_in p 2 hp (by omega) (by omega))
  have Cp3 := Lib.hid (chS_in p 3 hp (by omega) (by omega))
  have Cq1 := Lib.hid (chS_in q 1 hq (by omega) (by omega))
  have Cq2 := Lib.hid (chS_in q 2 hq (by omega) (by omega))
  have Cq3 := Lib.hid (chS_in q 3 hq (by omega) (by omega))
  rw [chan_0 hp, ← ha] at Cp0
  rw [chan_1 hp, ← hx1] at Cp1
  rw [chan_2 hp, ← hx2] at Cp2
  rw [chan_3 hp, ← hx3] at Cp3
  rw [chan_1 hq, ← hy1] at Cq1
  rw [chan_2 hq, ← hy2] at Cq2
  rw [chan_3 hq, ← hy3] at Cq3
  have k1 : chOk x1 := by rw [hx1]; exact ch_1 p
  have k2 : chOk x2 := by rw [hx2]; exact ch_2 p
  have k3 : chOk x3 := by rw [hx3]; exact ch_3 p
  have l1 : chOk y1 := by rw [hy1]; exact ch_1 q
  have l2 : chOk y2 := by rw [hy2]; exact ch_2 q
  have l3 : chOk y3 := by rw [hy3]; exact ch_3 q
  have P1 := Lib.hid (partS_ok x1 al k1 hal)
  have P2 := Lib.hid (partS_ok x2 al k2 hal)
  have P3 := Lib.hid (partS_ok x3 al k3 hal)
  have Q1 := Lib.hid (partS_ok y1 (255 - al) l1 hbl)
  have Q2 := Lib.hid (partS_ok y2 (255 - al) l2 hbl)
  have Q3 := Lib.hid (partS_ok y3 (255 - al) l3 hbl)
  obtain ⟨a1, ea1⟩ : ∃ x, x = pxPart x1 al := ⟨_, rfl⟩
  obtain ⟨a2, ea2⟩ : ∃ x, x = pxPart x2 al := ⟨_, rfl⟩
  obtain ⟨a3, ea3⟩ : ∃ x, x = pxPart x3 al := ⟨_, rfl⟩
  obtain ⟨b1, eb1⟩ : ∃ x, x = pxPart y1 (255 - al) := ⟨_, rfl⟩
  obtain ⟨b2, eb2⟩ : ∃ x, x = pxPart y2 (255 - al) := ⟨_, rfl⟩
  obtain ⟨b3, eb3⟩ : ∃ x, x = pxPart y3 (255 - al) := ⟨_, rfl⟩
  obtain ⟨a10, a11⟩ : chOk a1 := by rw [ea1]; exact part_ok k1 hal
  obtain ⟨a20, a21⟩ : chOk a2 := by rw [ea2]; exact part_ok k2 hal
  obtain ⟨a30, a31⟩ : chOk a3 := by rw [ea3]; exact part_ok k3 hal
  obtain ⟨b10, b11⟩ : chOk b1 := by rw [eb1]; exact part_ok l1 hbl
  obtain ⟨b20, b21⟩ : chOk b2 := by rw [eb2]; exact part_ok l2 hbl
  obtain ⟨b30, b31⟩ : chOk b3 := by rw [eb3]; exact part_ok l3 hbl
  rw [overK, ← ha, ← hx1, ← hx2, ← hx3, ← hy1, ← hy2, ← hy3, mixC, mixC, mixC, ← ea1, ← ea2, ← ea3, ← eb1, ← eb2, ← eb3, pack4] at Hn
  rw [← ea1] at P1
  rw [← ea2] at P2
  rw [← ea3] at P3
  rw [← eb1] at Q1
  rw [← eb2] at Q2
  rw [← eb3] at Q3
  obtain ⟨al0, al1⟩ := hal
  have Hp := Lib.hid hp
  have Hq := Lib.hid hq
  clear ha hx1 hx2 hx3 hy1 hy2 hy3 ea1 ea2 ea3 eb1 eb2 eb3 hbl k1 k2 k3 l1 l2 l3 hp hq
  go_enter Try.func16, Try.ntmps16
  go_wp2_with fail
  refine (pixS_yes p Hp.out _).mono ?_
  rintro e w' ⟨rfl, rfl⟩
  go_wp2_with fail
  refine (pixS_yes q Hq.out _).mono ?_
  rintro e w' ⟨rfl, rfl⟩
  go_wp2_with fail
  refine (Cp0.out _).mono ?_
  rintro e w' ⟨rfl, rfl⟩
  go_wp2_with fail
  go_loop [6, 7] (fun s i => (i = .int .i64 1 ∧ s = .int .i64 255) ∨ (i = .int .i64 2 ∧ s = .int .i64 (65280 + a1 + b1)) ∨ (i = .int .i64 3 ∧ s = .int .i64 ((65280 + a1 + b1) * 256 + a2 + b2)) ∨ (i = .int .i64 4 ∧ s = .int .i64 (((65280 + a1 + b1) * 256 + a2 + b2) * 256 + a3 + b3))) (fun _ i => 4 - (intOf i).toNat)
  case atStart => exact .inl ⟨rfl, rfl⟩
  case round =>
    rcases hrel with ⟨rfl, rfl⟩ | ⟨rfl, rfl⟩ | ⟨rfl, rfl⟩ | ⟨rfl, rfl⟩
    · go_wp2_with fail
      refine (Cp1.out _).mono ?_
      rintro e w' ⟨rfl, rfl⟩
      go_wp2_with fail
      refine (P1.out _).mono ?_
      rintro e w' ⟨rfl, rfl⟩
      go_wp2_with fail
      refine (Cq1.out _).mono ?_
      rintro e w' ⟨rfl, rfl⟩
      go_wp2_with fail
      refine (Q1.out _).mono ?_
      rintro e w' ⟨rfl, rfl⟩
      go_wp2_with fail
      go_round
      case rel => exact .inr (.inl ⟨rfl, rfl⟩)
      case measure => simp [intOf]
    · go_wp2_with fail
      refine (Cp2.out _).mono ?_
      rintro e w' ⟨rfl, rfl⟩
      go_wp2_with fail
      refine (P2.out _).mono ?_
      rintro e w' ⟨rfl, rfl⟩
      go_wp2_with fail
      refine (Cq2.out _).mono ?_
      rintro e w' ⟨rfl, rfl⟩
      go_wp2_with fail
      refine (Q2.out _).mono ?_
      rintro e w' ⟨rfl, rfl⟩
      go_wp2_with fail
      go_round
      case rel => exact .inr (.inr (.inl ⟨rfl, rfl⟩))
      case measure => simp [intOf]
    · go_wp2_with fail
      refine (Cp3.out _).mono ?_
      rintro e w' ⟨rfl, rfl⟩
      go_wp2_with fail
      refine (P3.out _).mono ?_
      rintro e w' ⟨rfl, rfl⟩
      go_wp2_with fail
      refine (Cq3.out _).mono ?_
      rintro e w' ⟨rfl, rfl⟩
      go_wp2_with fail
      refine (Q3.out _).mono ?_
      rintro e w' ⟨rfl, rfl⟩
      go_wp2_with fail
      go_round
      case rel => exact .inr (.inr (.inr ⟨rfl, rfl⟩))
      case measure => simp [intOf]
    · go_wp2_with fail
      go_ret
      exact ⟨ret_int (by rw [Hn.out]; omega), rfl⟩
theorem overS_any (p q : Int) (w : World) :
    Calls Try.prog 16 #[.int .i64 p, .int .i64 q] w fun e w' => e = .returned (.int .i64 (over p q)) ∧ w = w' := by
  by_cases hp : pixOk p
  · by_cases hq : pixOk q
    · exact overS_in p q hp hq w
    · have Hn : Hid (over p q = -1) := over_no fun h => hq h.2
      have Hp := Lib.hid hp
      have Hq := Lib.hid hq
      clear hp hq
      go_enter Try.func16, Try.ntmps16
      go_wp2_with fail
      refine (pixS_yes p Hp.out _).mono ?_
      rintro e w' ⟨rfl, rfl⟩
      go_wp2_with fail
      refine (pixS_no q Hq.out _).mono ?_
      rintro e w' ⟨rfl, rfl⟩
      go_wp2
      go_ret
      exact ⟨ret_int Hn.out.symm, rfl⟩
  · have Hn : Hid (over p q = -1) := over_no fun h => hp h.1
    have Hp := Lib.hid hp
    clear hp
    go_enter Try.func16, Try.ntmps16
    go_wp2_with fail
    refine (pixS_no p Hp.out _).mono ?_
    rintro e w' ⟨rfl, rfl⟩
    go_wp2
    go_ret
    exact ⟨ret_int Hn.out.symm, rfl⟩
end Go.Proofs.Ytjjamdibgjeokaa
namespace Go.Proofs.Ytjjamdibgjeokaa
open Go.RowKit
set_option maxHeartbeats 1000000 in
theorem overI_in (p q : Int) (hp : pixOk p) (hq : pixOk q) (w : World) :
    Calls Try.prog 94 #[.int .i64 p, .int .i64 q] w fun e w' => e = .returned (.int .i64 (over p q)) ∧ Below w.heap.size w w' := by
  have Hn : Hid (over p q = overK p q) := over_yes hp hq
  obtain ⟨al, ha⟩ : ∃ x, x = p / 16777216 := ⟨_, rfl⟩
  obtain ⟨x1, hx1⟩ : ∃ x, x = p / 65536 % 256 := ⟨_, rfl⟩
  obtain ⟨x2, hx2⟩ : ∃ x, x = p / 256 % 256 := ⟨_, rfl⟩
  obtain ⟨x3, hx3⟩ : ∃ x, x = p % 256 := ⟨_, rfl⟩
  obtain ⟨y0, hy0⟩ : ∃ x, x = q / 16777216 := ⟨_, rfl⟩
  obtain ⟨y1, hy1⟩ : ∃ x, x = q / 65536 % 256 := ⟨_, rfl⟩
  obtain ⟨y2, hy2⟩ : ∃ x, x = q / 256 % 256 := ⟨_, rfl⟩
  obtain ⟨y3, hy3⟩ : ∃ x, x = q % 256 := ⟨_, rfl⟩
  have hal : chOk al := by rw [ha]; exact ch_0 hp
  have hbl : chOk (255 - al) := by unfold chOk at hal ⊢; omega
  have Up := Lib.hid (unpackedI p hp)
  have Uq := Lib.hid (unpackedI q hq)
  rw [← ha, ← hx1, ← hx2, ← hx3] at Up
  rw [← hy0, ← hy1, ← hy2, ← hy3] at Uq
  have k1 : chOk x1 := by rw [hx1]; exact ch_1 p
  have k2 : chOk x2 := by rw [hx2]; exact ch_2 p
  have k3 : chOk x3 := by rw [hx3]; exact ch_3 p
  have l1 : chOk y1 := by rw [hy1]; exact ch_1 q
  have l2 : chOk y2 := by rw [hy2]; exact ch_2 q
  have l3 : chOk y3 := by rw [hy3]; exact ch_3 q
  have M1 : Hid (chOk (mixC x1 y1 al)) := mix_ok k1 l1 hal
  have M2 : Hid (chOk (mixC x2 y2 al)) := mix_ok k2 l2 hal
  have M3 : Hid (chOk (mixC x3 y3 al)) := mix_ok k3 l3 hal
  have P1 := Lib.hid (partI_ok x1 al k1 hal)
  have P2 := Lib.hid (partI_ok x2 al k2 hal)
  have P3 := Lib.hid (partI_ok x3 al k3 hal)
  have Q1 := Lib.hid (partI_ok y1 (255 - al) l1 hbl)
  have Q2 := Lib.hid (partI_ok y2 (255 - al) l2 hbl)
  have Q3 := Lib.hid (partI_ok y3 (255 - al) l3 hbl)
  obtain ⟨a1, ea1⟩ : ∃ x, x = pxPart x1 al := ⟨_, rfl⟩
  obtain ⟨a2, ea2⟩ : ∃ x, x = pxPart x2 al := ⟨_, rfl⟩
  obtain ⟨a3, ea3⟩ : ∃ x, x = pxPart x3 al := ⟨_, rfl⟩
  obtain ⟨b1, eb1⟩ : ∃ x, x = pxPart y1 (255 - al) := ⟨_, rfl⟩
  obtain ⟨b2, eb2⟩ : ∃ x, x = pxPart y2 (255 - al) := ⟨_, rfl⟩
  obtain ⟨b3, eb3⟩ : ∃ x, x = pxPart y3 (255 - al) := ⟨_, rfl⟩
  obtain ⟨a10, a11⟩ : chOk a1 := by rw [ea1]; exact part_ok k1 hal
  obtain ⟨a20, a21⟩ : chOk a2 := by rw [ea2]; exact part_ok k2 hal
  obtain ⟨a30, a31⟩ : chOk a3 := by rw [ea3]; exact part_ok k3 hal
  obtain ⟨b10, b11⟩ : chOk b1 := by rw [eb1]; exact part_ok l1 hbl
  obtain ⟨b20, b21⟩ : chOk b2 := by rw [eb2]; exact part_ok l2 hbl
  obtain ⟨b30, b31⟩ : chOk b3 := by rw [eb3]; exact part_ok l3 hbl
  rw [overK, ← ha, ← hx1, ← hx2, ← hx3, ← hy1, ← hy2, ← hy3, mixC, mixC, mixC, ← ea1, ← ea2, ← ea3, ← eb1, ← eb2, ← eb3] at Hn
  rw [mixC, ← ea1, ← eb1] at M1
  rw [mixC, ← ea2, ← eb2] at M2
  rw [mixC, ← ea3, ← eb3] at M3
  rw [← ea1] at P1
  rw [← ea2] at P2
  rw [← ea3] at P3
  rw [← eb1] at Q1
  rw [← eb2] at Q2
  rw [← eb3] at Q3
  obtain ⟨al0, al1⟩ := hal
  have Hp := Lib.hid hp
  have Hq := Lib.hid hq
  have s1 : IntKind.i64.wrap (a1 + b1) = a1 + b1 := IntWalk.i64_in _ (by omega)
  have s2 : IntKind.i64.wrap (a2 + b2) = a2 + b2 := IntWalk.i64_in _ (by omega)
  have s3 : IntKind.i64.wrap (a3 + b3) = a3 + b3 := IntWalk.i64_in _ (by omega)
  have s4 : IntKind.i64.wrap (255 - al) = 255 - al := IntWalk.i64_in _ (by omega)
  clear ha hx1 hx2 hx3 hy0 hy1 hy2 hy3 ea1 ea2 ea3 eb1 eb2 eb3 hbl k1 k2 k3 l1 l2 l3 hp hq
  go_enter Try.func94, Try.ntmps94
  go_wp2_with fail
  refine (pixI_yes p Hp.out _).mono ?_
  rintro e w' ⟨rfl, rfl⟩
  go_wp2_with fail
  refine (pixI_yes q Hq.out _).mono ?_
  rintro e w' ⟨rfl, rfl⟩
  go_wp2_with fail
  refine (Up.out _).mono ?_
  rintro e w1 ⟨rfl, K⟩
  go_wp2_with fail
  refine (Uq.out _).mono ?_
  rintro e w2 ⟨rfl, hb⟩
  replace K := px_call K hb
  have hlw := K.size
  clear hb
  go_wp2_with fail
  go_loopw [9] (fun i wr => ∃ (k : Nat) (m1 m2 m3 : Int), 1 ≤ k ∧ k ≤ 4 ∧ i = .int .i64 k ∧ Hid ((1 < k → m1 = a1 + b1) ∧ (2 < k → m2 = a2 + b2) ∧ (3 < k → m3 = a3 + b3)) ∧
    ChAt wr w2.heap.size al x1 x2 x3 ∧ ChAt wr (w2.heap.size + 1) y0 y1 y2 y3 ∧ ChAt wr (w2.heap.size + 1 + 1) 255 m1 m2 m3 ∧ Below w.heap.size w wr) (fun i _ => 4 - (intOf i).toNat)
  case atStart =>
    exact ⟨1, 0, 0, 0, by omega, by omega, rfl, ⟨fun h => by omega, fun h => by omega, fun h => by omega⟩, ((ChAt.new w2 al x1 x2 x3).alloc _).alloc _, (ChAt.newAt (by simp) y0 y1 y2 y3).alloc _, ChAt.newAt (by simp) 255 0 0 0,
      ((K.alloc K.size _).alloc (by simp; omega) _).alloc (by simp; omega) _⟩
  case round =>
    clear K
    obtain ⟨k, m1, m2, m3, hk0, hk, rfl, Hm, hU, hL, hM, K⟩ := hrel
    have hsz := hM.lt
    have mf := hM.frozen
    have hsz1 := hL.lt
    have hsz0 := hU.lt
    obtain ⟨u0, u1, u2, u3⟩ := hU.cells
    obtain ⟨v0, v1, v2, v3⟩ := hL.cells
    obtain ⟨n0, n1, n2, n3⟩ := hM.cells
    have HU := Lib.hid hU
    have HL := Lib.hid hL
    have HM := Lib.hid hM
    have HK := Lib.hid K
    clear hU hL hM K
    obtain rfl | rfl | rfl | rfl : k = 1 ∨ k = 2 ∨ k = 3 ∨ k = 4 := by omega
    · have P := P1
      have Q := Q1
      clear P1 P2 P3 Q1 Q2 Q3
      clear u0 u2 u3 v0 v2 v3
      go_wp2_with fail
      go_region_held3 (fun w' => w'.cell? ⟨w2.heap.size, 1, none⟩ = some (.int .i64 x1) ∧ w'.cell? ⟨w2.heap.size + 1, 1, none⟩ = some (.int .i64 y1))
        (first | exact ⟨((HU.out.far (p := ⟨w2.heap.size + 1 + 1, 1, none⟩) (by show w2.heap.size ≠ w2.heap.size + 1 + 1; omega) _).drew.cells).2.1, ((HL.out.far (p := ⟨w2.heap.size + 1 + 1, 1, none⟩) (by show w2.heap.size + 1 ≠ w2.heap.size + 1 + 1; omega) _).drew.cells).2.1⟩ | go_keep | fail)
        (first | (go_at_call 104; (with_reducible refine (P.out _).mono ?_); rintro e w' ⟨rfl, rfl⟩) | (go_at_call 104; (with_reducible refine (Q.out _).mono ?_); rintro e w' ⟨rfl, rfl⟩))
      all_goals
        go_wp2_with fail
        go_roundw
        case rel => exact ⟨2, _, m2, m3, by omega, by omega, rfl, ⟨fun _ => rfl, fun h => by omega, fun h => by omega⟩, HU.out.drew.far (by show w2.heap.size ≠ w2.heap.size + 1 + 1; omega) _, HL.out.drew.far (by show w2.heap.size + 1 ≠ w2.heap.size + 1 + 1; omega) _, HM.out.drew.set1 _, HK.out.drew.setCell (by simp; omega) _⟩
        case measure => simp [intOf]
    · have P := P2
      have Q := Q2
      clear P1 P2 P3 Q1 Q2 Q3
      clear u0 u1 u3 v0 v1 v3
      go_wp2_with fail
      go_region_held3 (fun w' => w'.cell? ⟨w2.heap.size, 2, none⟩ = some (.int .i64 x2) ∧ w'.cell? ⟨w2.heap.size + 1, 2, none⟩ = some (.int .i64 y2))
        (first | exact ⟨((HU.out.far (p := ⟨w2.heap.size + 1 + 1, 2, none⟩) (by show w2.heap.size ≠ w2.heap.size + 1 + 1; omega) _).drew.cells).2.2.1, ((HL.out.far (p := ⟨w2.heap.size + 1 + 1, 2, none⟩) (by show w2.heap.size + 1 ≠ w2.heap.size + 1 + 1; omega) _).drew.cells).2.2.1⟩ | go_keep | fail)
        (first | (go_at_call 104; (with_reducible refine (P.out _).mono ?_); rintro e w' ⟨rfl, rfl⟩) | (go_at_call 104; (with_reducible refine (Q.out _).mono ?_); rintro e w' ⟨rfl, rfl⟩))
      all_goals
        go_wp2_with fail
        go_roundw
        case rel => exact ⟨3, m1, _, m3, by omega, by omega, rfl, ⟨fun _ => Hm.out.1 (by omega), fun _ => rfl, fun h => by omega⟩, HU.out.drew.far (by show w2.heap.size ≠ w2.heap.size + 1 + 1; omega) _, HL.out.drew.far (by show w2.heap.size + 1 ≠ w2.heap.size + 1 + 1; omega) _, HM.out.drew.set2 _, HK.out.drew.setCell (by simp; omega) _⟩
        case measure => simp [intOf]
    · have P := P3
      have Q := Q3
      clear P1 P2 P3 Q1 Q2 Q3
      clear u0 u1 u2 v0 v1 v2
      go_wp2_with fail
      go_region_held3 (fun w' => w'.cell? ⟨w2.heap.size, 3, none⟩ = some (.int .i64 x3) ∧ w'.cell? ⟨w2.heap.size + 1, 3, none⟩ = some (.int .i64 y3))
        (first | exact ⟨((HU.out.far (p := ⟨w2.heap.size + 1 + 1, 3, none⟩) (by show w2.heap.size ≠ w2.heap.size + 1 + 1; omega) _).drew.cells).2.2.2, ((HL.out.far (p := ⟨w2.heap.size + 1 + 1, 3, none⟩) (by show w2.heap.size + 1 ≠ w2.heap.size + 1 + 1; omega) _).drew.cells).2.2.2⟩ | go_keep | fail)
        (first | (go_at_call 104; (with_reducible refine (P.out _).mono ?_); rintro e w' ⟨rfl, rfl⟩) | (go_at_call 104; (with_reducible refine (Q.out _).mono ?_); rintro e w' ⟨rfl, rfl⟩))
      all_goals
        go_wp2_with fail
        go_roundw
        case rel => exact ⟨4, m1, m2, _, by omega, by omega, rfl, ⟨fun _ => Hm.out.1 (by omega), fun _ => Hm.out.2.1 (by omega), fun _ => rfl⟩, HU.out.drew.far (by show w2.heap.size ≠ w2.heap.size + 1 + 1; omega) _, HL.out.drew.far (by show w2.heap.size + 1 ≠ w2.heap.size + 1 + 1; omega) _, HM.out.drew.set3 _, HK.out.drew.setCell (by simp; omega) _⟩
        case measure => simp [intOf]
    · obtain rfl : m1 = a1 + b1 := Hm.out.1 (by omega)
      obtain rfl : m2 = a2 + b2 := Hm.out.2.1 (by omega)
      obtain rfl : m3 = a3 + b3 := Hm.out.2.2 (by omega)
      go_wp2_with fail
      refine (packedI 255 _ _ _ ch_255 M1.out M2.out M3.out _).mono ?_
      rintro e w3 ⟨rfl, hb⟩
      go_wp2_with fail
      go_ret
      exact ⟨ret_int Hn.out.symm, px_call HK.out hb⟩
theorem overI_any (p q : Int) (w : World) :
    Calls Try.prog 94 #[.int .i64 p, .int .i64 q] w fun e w' => e = .returned (.int .i64 (over p q)) ∧ Below w.heap.size w w' := by
  by_cases hp : pixOk p
  · by_cases hq : pixOk q
    · exact overI_in p q hp hq w
    · have Hn : Hid (over p q = -1) := over_no fun h => hq h.2
      have Hp := Lib.hid hp
      have Hq := Lib.hid hq
      clear hp hq
      go_enter Try.func94, Try.ntmps94
      go_wp2_with fail
      refine (pixI_yes p Hp.out _).mono ?_
      rintro e w' ⟨rfl, rfl⟩
      go_wp2_with fail
      refine (pixI_no q Hq.out _).mono ?_
      rintro e w' ⟨rfl, rfl⟩
      go_wp2
      go_ret
      exact ⟨ret_int Hn.out.symm, Below.refl _ _⟩
  · have Hn : Hid (over p q = -1) := over_no fun h => hp h.1
    have Hp := Lib.hid hp
    clear hp
    go_enter Try.func94, Try.ntmps94
    go_wp2_with fail
    refine (pixI_no p Hp.out _).mono ?_
    rintro e w' ⟨rfl, rfl⟩
    go_wp2
    go_ret
    exact ⟨ret_int Hn.out.symm, Below.refl _ _⟩
end Go.Proofs.Ytjjamdibgjeokaa
namespace Go.Proofs.Ytjjamdibgjeokaa
open Go.RowKit
theorem and_mask (x m : Int) (h0 : 0 ≤ m) (h1 : m ≤ 9223372036854775807) : 0 ≤ bits .and .i64 x m ∧ bits .and .i64 x m ≤ m := by
  obtain ⟨k, rfl⟩ := Int.eq_ofNat_of_zero_le h0
  have h2 : (BitVec.ofInt 64 (k : Int)).toNat = k := by
    rw [BitVec.ofInt_natCast, BitVec.toNat_ofNat]; exact Nat.mod_eq_of_lt (by omega)
  have h : (BitVec.ofInt 64 x &&& BitVec.ofInt 64 (k : Int)).toNat ≤ k := by
    rw [BitVec.toNat_and, h2]; exact Nat.and_le_right
  have e : bits .and .i64 x (k : Int) = IntKind.i64.wrap ((BitVec.ofInt 64 x &&& BitVec.ofInt 64 (k : Int)).toNat : Int) := rfl
  rw [e, IntWalk.i64_in _ (by omega)]; omega
theorem IsRow.of_same {k : IntKind} {w w' : World} {a : Option Addr} {len cap : Nat} {zs : List Int} (h : IsRow k w a len cap zs)
    (hs : ∀ x, a = some x → 0 < cap → w'.heap[x.block]? = w.heap[x.block]?) : IsRow k w' a len cap zs := by
  rcases h with h | ⟨x, rfl, h1, h2, h3, h4, h5⟩
  · exact .inl h
  · refine .inr ⟨x, rfl, h1, h2, h3, fun i hi => ?_, h5⟩
    rw [← h4 i hi]
    have e : (x.add i).block = x.block := by unfold Addr.add; split <;> rfl
    exact World.cell?_of_block (by rw [e]; exact hs x rfl (by omega))
theorem cells_of_cur {w : World} {g : Nat} {s i h : Value} {T : TypeId} (hg : w.heap[g]? = some (.cells #[s, i, h] T (0, 0))) :
    w.cell? ⟨g, 0, none⟩ = some s ∧ w.cell? ⟨g, 1, none⟩ = some i ∧ w.cell? ⟨g, 2, none⟩ = some h ∧ (∀ o, w.frozen? ⟨g, o, none⟩ = false) := by
  refine ⟨?_, ?_, ?_, fun o => ?_⟩ <;> simp [World.cell?, World.frozen?, hg]
theorem grown_set (w : World) (g o : Nat) (v : Value) : w.grownBy (w.setCell ⟨g, o, none⟩ v) (some g) :=
  ⟨rfl, rfl, rfl, by simp [World.setCell], fun k _ hne => Below.heap_setCell _ _ _ _ (fun e => hne (by rw [e]))⟩
theorem grown_drewN (w : World) (n : Nat) (row : Option Nat) : w.grownBy (w.drewN n) row :=
  ⟨rfl, rfl, rfl, Nat.le_refl _, fun _ _ _ => rfl⟩
theorem heap_set1 {w : World} {g : Nat} {s i h : Value} {T : TypeId} (hg : w.heap[g]? = some (.cells #[s, i, h] T (0, 0))) (v : Value) :
    (w.setCell ⟨g, 1, none⟩ v).heap[g]? = some (.cells #[s, v, h] T (0, 0)) := by simp [World.setCell, Array.getElem?_modify, hg]
theorem heap_set2 {w : World} {g : Nat} {s i h : Value} {T : TypeId} (hg : w.heap[g]? = some (.cells #[s, i, h] T (0, 0))) (v : Value) :
    (w.setCell ⟨g, 2, none⟩ v).heap[g]? = some (.cells #[s, i, v] T (0, 0)) := by simp [World.setCell, Array.getElem?_modify, hg]
theorem heap_drewN {w : World} {g : Nat} {o : Option Obj} (hg : w.heap[g]? = o) (n : Nat) : (w.drewN n).heap[g]? = o := hg
theorem IsRow.lt {k : IntKind} {w : World} {a : Option Addr} {len cap : Nat} {zs : List Int} (h : IsRow k w a len cap zs) : ∀ x, a = some x → 0 < cap → x.block < w.heap.size := by
  rintro x rfl hl
  rcases h with ⟨h, _⟩ | ⟨y, hy, h1, h2, h3, h4, h5⟩
  · cases h
  · cases hy
    have := World.block_lt_of_cell? w _ (h4 0 (by omega))
    have e2 : (x.add 0).block = x.block := by unfold Addr.add; split <;> rfl
    rw [e2] at this
    exact this
end Go.Proofs.Ytjjamdibgjeokaa
namespace Go.Proofs.Ytjjamdibgjeokaa
open Go.RowKit
theorem RcAt.grown {w w' : World} {g : Nat} {row : Option Nat} {r : Rc} (h : RcAt w g r) (hb : w.grownBy w' row) (hg : some g ≠ row) : RcAt w' g r := (hb.block g h.lt hg).trans h
end Go.Proofs.Ytjjamdibgjeokaa
namespace Go.Proofs.Ytjjamdibgjeokaa
open Go.RowKit
theorem RcAt.call {w w' : World} {g : Nat} {r : Rc} (h : RcAt w g r) (hb : Below w.heap.size w w') : RcAt w' g r := h.below hb h.lt
end Go.Proofs.Ytjjamdibgjeokaa
namespace Go.Proofs.Ytjjamdibgjeokaa
open Go.RowKit
theorem wp_append_row {P : Program} {o : Oper} {a : Act} {w : World} {K : Act → World → Prop} {Q : Exit → Act → World → Prop} (s x : Operand) (t : TypeId)
    (ho : o.op = .call { callee := .builtin .append, args := #[s, x], argTypes := #[t, t] })
    (base base' : Nat) (e : TypeId) (i : TypeInfo) (z : Value) (size bytes : Nat) (ht : P.underlying t = some (.slice e)) (hi : P.info? e = some i) (hz : i.zero = some z)
    (hsize : i.size = size) (hby : i.bytes = bytes) (hzs : z.cells.size = size) (hsz : 0 < size)
    (v : Value) (n : Nat) (xs : List Value) (hs : a.eval s = v) (hown : w.ownsRow base e size v n xs)
    (u : Value) (m : Nat) (news : List Value) (hx : a.eval x = u) (hu : w.ownsRow base' e size u m news) (h1 : ∀ u ∈ news, u.oneCell' = true)
    (h63 : n + m ≤ maxLen) (hbytes : (n + m) * bytes ≤ 140737488355328) (hbase : base ≤ w.heap.size)
    (h : ∀ v' w', w'.ownsRow base e size v' (n + m) (xs ++ news) → w.grownBy w' v.ownBlock → (v'.ownBlock = v.ownBlock ∨ v'.ownBlock = some w.heap.size) → K (a.put o.dst v') w') : o.wp P a w K Q := by
  rcases hu.2 with ⟨rfl, rfl⟩ | ⟨g, cap, cur, rfl, _, _, hn, _, _, _⟩
  · have hnil : news = [] := List.eq_nil_of_length_eq_zero (by have := hu.1; omega)
    subst hnil
    have hr := run_append_none w base t o.type e i size ht hi v n xs hown
    unfold Oper.wp execOp
    simp only [ho, resolve, invoke, builtin, Sem.run_bind, Sem.run_pure, Result.andThen_ok, List.map_toArray, List.map_cons, List.map_nil, hs, hx, hr]
    exact h v w (by simpa using hown) ⟨rfl, rfl, rfl, Nat.le_refl _, fun _ _ _ => rfl⟩ (.inl rfl)
  · obtain ⟨v', w', hr, h2, h3, _, h5⟩ := run_append_own_at (P := P) w base t o.type e i z size bytes ht hi hz hsize hby hzs hsz v n xs hown ⟨g, 0, none⟩ m cap news hu.1 (hu.cells rfl) h1 h63 hbytes hbase
    unfold Oper.wp execOp
    simp only [ho, resolve, invoke, builtin, Sem.run_bind, Sem.run_pure, Result.andThen_ok, List.map_toArray, List.map_cons, List.map_nil, hs, hx, hr]
    exact h v' w' h2 h3 h5
end Go.Proofs.Ytjjamdibgjeokaa
