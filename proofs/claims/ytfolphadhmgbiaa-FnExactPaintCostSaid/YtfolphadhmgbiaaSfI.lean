/- Lists of surfaces that are read; the contracts of SurfaceIndex, of opaque pixels and of SceneOk. No statement is proved here. -/
import Derived.Test.YtfolphadhmgbiaaMA
import Derived.Test.YtfolphadhmgbiaaImR
import Derived.Test.YtfolphadhmgbiaaRep
import Derived.Test.YtfolphadhmgbiaaVar
import Derived.Test.YtfolphadhmgbiaaSfM
import Derived.Test.YtfolphadhmgbiaaOriC
import Derived.Test.YtfolphadhmgbiaaProg
import Derived.WalkKit
import Derived.ProofKit
import Derived.OpenShut
import Derived.WalkLawsBesides
import Derived.WalkSpells
import Derived.ShutString
import Derived.ChangeOld
import Derived.Below
import Derived.Lib.Hide
import Derived.BigQuiet
import Derived.Deep.QuietTactic
import Derived.Maps.AppendAt
import Derived.Deep.OwnRows
import Derived.Handy
import Derived.Deep.Draws
import Derived.OwnWalk
import Derived.Deep.AppendLies
import Derived.Deep.LoopGhost
import Derived.Deep.Onto
import Derived.Deep.MidRow
import Derived.Deep.WholeRow
import Derived.Laws.BitsAllLaws
import Derived.Lib.QuoteBits
import Derived.Deep.RegionHeld3
import Derived.Deep.DeepCutAuto
namespace Go.Proofs.Ytfolphadhmgbiaa
open Go.RowKit
def repSfs : Rep (List Sf) := repSl repSf 37 11
def wkSfs : Wk (List Sf) := wkSl wkSf 11
/-- The eleven cells from place o of block g on hold the surface f. -/
structure C11 (w : World) (g o : Nat) (f : Sf) (d : Value) : Prop where
  c0 : w.cell? ⟨g, o, none⟩ = some (.int .i64 f.id)
  c1 : w.cell? ⟨g, o + 1, none⟩ = some (.int .i64 f.x)
  c2 : w.cell? ⟨g, o + 2, none⟩ = some (.int .i64 f.y)
  c3 : w.cell? ⟨g, o + 3, none⟩ = some (.int .i64 f.w)
  c4 : w.cell? ⟨g, o + 4, none⟩ = some (.int .i64 f.h)
  c5 : w.cell? ⟨g, o + 5, none⟩ = some (.int .i64 f.alpha)
  c6 : w.cell? ⟨g, o + 6, none⟩ = some (.int .i64 f.orient)
  c7 : w.cell? ⟨g, o + 7, none⟩ = some (.bool f.vis)
  c8 : w.cell? ⟨g, o + 8, none⟩ = some (.int .i64 f.bw)
  c9 : w.cell? ⟨g, o + 9, none⟩ = some (.int .i64 f.bh)
  c10 : w.cell? ⟨g, o + 10, none⟩ = some d
theorem own_cellI {w : World} {B n c g s : Nat} {e : TypeId} {xs : List Value} (h : w.ownsRow B e s (.slice (some ⟨g, 0, none⟩) n c) n xs) {j : Nat} {u : Value} (hu : xs[j]? = some u) : w.cell? ⟨g, j, none⟩ = some u := by
  have := h.cells (g := g) rfl j u hu
  rwa [addr_add] at this
theorem c11_of {w : World} {g o : Nat} {f : Sf} {d : Value} (h : ∀ j u, (sfCells f d)[j]? = some u → w.cell? ⟨g, o + j, none⟩ = some u) : C11 w g o f d :=
  ⟨h 0 _ rfl, h 1 _ rfl, h 2 _ rfl, h 3 _ rfl, h 4 _ rfl, h 5 _ rfl, h 6 _ rfl, h 7 _ rfl, h 8 _ rfl, h 9 _ rfl, h 10 _ rfl⟩
theorem repSfs_form {w : World} {v : Value} {L : List Sf} {bs : List Nat} (h : repSfs.R w L [v] bs) : (∃ A c, v = .slice A L.length c) ∧ L.length ≤ maxLen := by
  obtain ⟨v', xs, bss, e, hr, hs, ho, _⟩ := h
  obtain rfl : v = v' := by simpa using e
  rcases ho.2 with ⟨rfl, h0⟩ | ⟨g, cap, cur, rfl, _, _, hn, hc, _⟩
  · exact ⟨⟨none, 0, by rw [h0]⟩, by rw [h0]; exact Nat.zero_le _⟩
  · exact ⟨⟨_, _, rfl⟩, by omega⟩
theorem repSfs_at {w : World} {A : Option Addr} {n c k : Nat} {L : List Sf} {bs : List Nat} (h : repSfs.R w L [.slice A n c] bs) (hk : k < L.length) : ∃ g f d, A = some ⟨g, 0, none⟩ ∧ L[k]? = some f ∧ C11 w g (k * 11) f d ∧ RdI w d f.data := by
  obtain ⟨v', xs, bss, e, hr, hs, ho, _⟩ := h
  obtain rfl : Value.slice A n c = v' := by simpa using e
  have hkf : L[k]? = some (L[k]'hk) := List.getElem?_eq_getElem hk
  obtain ⟨x, b, hx, hb, hR⟩ := rowsR_at hr k _ hkf
  obtain ⟨d, rfl, hd⟩ := hR
  rcases ho.2 with ⟨he, h0⟩ | ⟨g, cap, cur, he, _⟩
  · omega
  · injection he with e1 e2 e3
    subst e1 e2 e3
    refine ⟨g, L[k], d, rfl, hkf, c11_of fun j u hu => ?_, repInts_rd hd⟩
    have hj : j < 11 := (List.getElem?_eq_some_iff.1 hu).1
    exact own_cellI ho (by rw [flat_at hs k j hx hj]; exact hu)
/-- The box of a scene that came in. -/
structure SnA (b : Nat) (s : Sn) (v : Value) (bs : List Nat) (W : World) : Prop where
  at_ : BkAt W b 26 #[.int .i64 s.w, .int .i64 s.h, .int .i64 s.back, v]
  r : repSfs.R W s.fs [v] bs
theorem SnA.call {b : Nat} {s : Sn} {v : Value} {bs : List Nat} {W W' : World} (h : SnA b s v bs W) (hb : Below W.heap.size W W') : SnA b s v bs W' := ⟨h.at_.call hb, Rep.call h.r hb⟩
theorem SnA.born {s : Sn} {v : Value} {bs : List Nat} {w : World} (h : repSfs.R w s.fs [v] bs) : SnA w.heap.size s v bs (w.alloc (.cells #[.int .i64 s.w, .int .i64 s.h, .int .i64 s.back, v] 26)) := ⟨BkAt.new _ _ _, Rep.call h (belI_box _ _)⟩
theorem SnA.cells {b : Nat} {s : Sn} {v : Value} {bs : List Nat} {W : World} (h : SnA b s v bs W) : W.cell? ⟨b, 0, none⟩ = some (.int .i64 s.w) ∧ W.cell? ⟨b, 1, none⟩ = some (.int .i64 s.h) ∧ W.cell? ⟨b, 2, none⟩ = some (.int .i64 s.back) ∧ W.cell? ⟨b, 3, none⟩ = some v := h.at_.cells4
/-- What SurfaceIndex answers. -/
def IdxAns (L : List Sf) (i : Int) (w : World) (e : Ending) (w' : World) : Prop := e = .returned (.int .i64 (idxF L i)) ∧ Below w.heap.size w w'
set_option maxHeartbeats 1000000 in
theorem idxS (s : Sn) (i : Int) (v : Value) (bs : List Nat) (w : World) (h : repSfs.R w s.fs [v] bs) :
    Calls Try.prog 19 #[.agg #[.int .i64 s.w, .int .i64 s.h, .int .i64 s.back, v], .int .i64 i] w (IdxAns s.fs i w) := by
  have hA := SnA.born h
  have hB := belI_box w (.cells #[.int .i64 s.w, .int .i64 s.h, .int .i64 s.back, v] 26)
  obtain ⟨⟨A, c, rfl⟩, hm⟩ := repSfs_form h
  obtain ⟨n, hn⟩ : ∃ n, n = s.fs.length := ⟨_, rfl⟩
  rw [← hn] at hA hB hm ⊢
  unfold maxLen at hm
  have HA := Lib.hid hA
  have HB := Lib.hid hB
  have Hn := Lib.hid hn
  obtain ⟨_, _, _, d3⟩ := hA.cells
  clear h hA hB hn
  go_enter Try.func19, Try.ntmps19
  go_wp2_with fail
  go_loopw [5] (fun s5 wr => ∃ k : Nat, k ≤ n ∧ s5 = .int .i64 k ∧ Hid (∀ (j : Nat) (g : Sf), j < k → s.fs[j]? = some g → g.id ≠ i) ∧ wr = w.alloc (.cells #[.int .i64 s.w, .int .i64 s.h, .int .i64 s.back, .slice A n c] 26)) (fun s5 _ => n - (intOf s5).toNat)
  case atStart => exact ⟨0, Nat.zero_le _, rfl, Lib.hid (fun j x h => by omega), rfl⟩
  case round =>
    obtain ⟨k, hk, rfl, Hall, rfl⟩ := hrel
    by_cases hlt : k < n
    · obtain ⟨g, f, d, rfl, hf, hC, _⟩ := repSfs_at HA.out.r (k := k) (by rw [← Hn.out]; exact hlt)
      have Hf := Lib.hid hf
      have c0 := hC.c0
      have k0 : (0 : Int) ≤ (k : Int) := by omega
      have k1 : (k : Int) < (n : Int) := by omega
      clear hf hC
      by_cases he : f.id = i
      · have Hq := Lib.hid (idxF_hit Hf.out he Hall.out)
        rw [he] at c0
        go_wp2_with fail
        go_ret
        exact ⟨ret_int Hq.out.symm, HB.out⟩
      · go_wp2_with fail
        go_roundw
        case rel =>
          refine ⟨k + 1, by omega, by go_num, Lib.hid (fun j y hj hy => ?_), by first | rfl | trivial⟩
          by_cases e : j < k
          · exact Hall.out j y e hy
          · obtain rfl : j = k := by omega
            rw [Hf.out] at hy
            rw [← Option.some.inj hy]
            exact he
        case measure => simp [intOf]; omega
    · obtain rfl : k = n := by omega
      have Hq := Lib.hid (idxF_miss (L := s.fs) (i := i) fun j g hj => Hall.out j g (by rw [Hn.out]; exact (List.getElem?_eq_some_iff.1 hj).1) hj)
      go_wp2_with fail
      go_ret
      exact ⟨ret_int Hq.out.symm, HB.out⟩
/-- The test of an Id. -/
theorem sameIdI (f : Sf) (d : Value) (i : Int) (b : Nat) (w : World) (hc : w.cell? ⟨b, 0, none⟩ = some (.int .i64 i)) :
    Calls Try.prog 64 #[.agg #[.int .i64 f.id, .int .i64 f.x, .int .i64 f.y, .int .i64 f.w, .int .i64 f.h, .int .i64 f.alpha, .int .i64 f.orient, .bool f.vis, .int .i64 f.bw, .int .i64 f.bh, d], .pointer (some ⟨b, 0, none⟩)] w fun e w' => e = .returned (.bool (f.id == i)) ∧ Below w.heap.size w w' := by
  have hc2 : (w.alloc (.cells #[.int .i64 f.id, .int .i64 f.x, .int .i64 f.y, .int .i64 f.w, .int .i64 f.h, .int .i64 f.alpha, .int .i64 f.orient, .bool f.vis, .int .i64 f.bw, .int .i64 f.bh, d] 37)).cell? ⟨b, 0, none⟩ = some (.int .i64 i) := Lib.cell?_alloc_some _ hc
  have HB := Lib.hid (belI_box w (.cells #[.int .i64 f.id, .int .i64 f.x, .int .i64 f.y, .int .i64 f.w, .int .i64 f.h, .int .i64 f.alpha, .int .i64 f.orient, .bool f.vis, .int .i64 f.bw, .int .i64 f.bh, d] 37))
  clear hc
  go_enter Try.func64, Try.ntmps64
  go_wp2_with fail
  go_ret
  exact ⟨rfl, HB.out⟩
set_option maxHeartbeats 1000000 in
set_option maxRecDepth 10000 in
theorem idxFn (L : List Sf) (i : Int) (v : Value) (bs : List Nat) (b : Nat) (w : World) (h : repSfs.R w L [v] bs) (hc : w.cell? ⟨b, 0, none⟩ = some (.int .i64 i)) :
    Calls Try.prog 63 #[v, .func (.func 64) #[] #[.pointer (some ⟨b, 0, none⟩)]] w (IdxAns L i w) := by
  obtain ⟨⟨A, c, rfl⟩, hm⟩ := repSfs_form h
  obtain ⟨n, hn⟩ : ∃ n, n = L.length := ⟨_, rfl⟩
  rw [← hn] at h hm ⊢
  unfold maxLen at hm
  have H := Lib.hid h
  have Hc := Lib.hid hc
  have Hn := Lib.hid hn
  clear h hc hn
  go_enter Try.func63, Try.ntmps63
  go_wp2_with fail
  go_loopg [5, 8] n (fun gg _ s8 wr => ∃ k : Nat, k ≤ n ∧ n - k ≤ gg ∧ s8 = .int .i64 k ∧ Hid (∀ (j : Nat) (g : Sf), j < k → L[j]? = some g → g.id ≠ i) ∧ Hid (Below w.heap.size w wr))
  case atStart => exact ⟨0, Nat.zero_le _, by omega, rfl, Lib.hid (fun j x h => by omega), Lib.hid (Below.refl _ _)⟩
  case round =>
    obtain ⟨k, hk, hgg, rfl, Hall, HB⟩ := hrel
    by_cases hlt : k < n
    · obtain ⟨g, f, d, rfl, hf, hC, _⟩ := repSfs_at (Rep.call H.out HB.out) (k := k) (by rw [← Hn.out]; exact hlt)
      have Hf := Lib.hid hf
      obtain ⟨c0, c1, c2, c3, c4, c5, c6, c7, c8, c9, c10⟩ := hC
      have HK := Lib.hid (sameIdI f d i b wr ((HB.out.cell (World.block_lt_of_cell? w _ Hc.out)).trans Hc.out))
      have k0 : (0 : Int) ≤ (k : Int) := by omega
      have k1 : (k : Int) < (n : Int) := by omega
      clear hf
      by_cases he : f.id = i
      · have Hq := Lib.hid (idxF_hit Hf.out he Hall.out)
        rw [show (f.id == i) = true by simp [he]] at HK
        clear he
        go_wp2_with fail
        refine HK.out.mono ?_
        rintro e w1 ⟨rfl, hb⟩
        clear c0 c1 c2 c3 c4 c5 c6 c7 c8 c9 c10
        go_wp2_with fail
        go_ret
        exact ⟨ret_int Hq.out.symm, belI_call HB.out hb⟩
      · rw [show (f.id == i) = false by simp [he]] at HK
        have He := Lib.hid he
        clear he
        go_wp2_with fail
        refine HK.out.mono ?_
        rintro e w1 ⟨rfl, hb⟩
        clear c0 c1 c2 c3 c4 c5 c6 c7 c8 c9 c10
        go_wp2_with fail
        go_roundg (n - (k + 1))
        case measure => omega
        case rel =>
          refine ⟨k + 1, by omega, by omega, by go_num, Lib.hid (fun j y hj hy => ?_), Lib.hid (belI_call HB.out hb)⟩
          by_cases e : j < k
          · exact Hall.out j y e hy
          · obtain rfl : j = k := by omega
            rw [Hf.out] at hy
            rw [← Option.some.inj hy]
            exact He.out
    · obtain rfl : k = n := by omega
      have Hq := Lib.hid (idxF_miss (L := L) (i := i) fun j g hj => Hall.out j g (by rw [Hn.out]; exact (List.getElem?_eq_some_iff.1 hj).1) hj)
      go_wp2_with fail
      go_ret
      exact ⟨ret_int Hq.out.symm, HB.out⟩
set_option maxHeartbeats 1000000 in
theorem idxI (s : Sn) (i : Int) (v : Value) (bs : List Nat) (w : World) (h : repSfs.R w s.fs [v] bs) :
    Calls Try.prog 18 #[.agg #[.int .i64 s.w, .int .i64 s.h, .int .i64 s.back, v], .int .i64 i] w (IdxAns s.fs i w) := by
  have hA := (SnA.born h).call (belI_box (w.alloc (.cells #[.int .i64 s.w, .int .i64 s.h, .int .i64 s.back, v] 26)) (.cells #[.int .i64 i] 3))
  have hB := belI_call (belI_box w (.cells #[.int .i64 s.w, .int .i64 s.h, .int .i64 s.back, v] 26)) (belI_box _ (.cells #[.int .i64 i] 3))
  have hX := (BkAt.newAt (w := w.alloc (.cells #[.int .i64 s.w, .int .i64 s.h, .int .i64 s.back, v] 26)) (g := w.heap.size + 1) (by simp) 3 #[.int .i64 i]).cell 0 rfl
  have HK := Lib.hid (idxFn s.fs i v bs _ _ hA.r hX)
  have HB := Lib.hid hB
  obtain ⟨_, _, _, d3⟩ := hA.cells
  obtain ⟨⟨A, c, rfl⟩, hm⟩ := repSfs_form h
  clear h hA hB hX hm
  go_enter Try.func18, Try.ntmps18
  go_wp2_with fail
  refine HK.out.mono ?_
  rintro e w1 ⟨rfl, hb⟩
  go_wp2_with fail
  go_ret
  exact ⟨rfl, belI_call HB.out hb⟩
end Go.Proofs.Ytfolphadhmgbiaa
