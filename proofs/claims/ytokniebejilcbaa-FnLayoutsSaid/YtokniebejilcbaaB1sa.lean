/- Texts of mine in one file: RpI, SpI, SqI, LdS. No statement is proved here. -/
import Derived.Test.YtokniebejilcbaaMA
import Derived.Test.YtokniebejilcbaaMB
import Derived.Test.YtokniebejilcbaaLyI
import Derived.Test.YtokniebejilcbaaProg
import Derived.WalkKit
import Derived.ProofKit
import Derived.OpenShut
import Derived.WalkLawsBesides
import Derived.WalkSpells
import Derived.ShutString
import Derived.ChangeOld
import Derived.Below
import Derived.Lib.Hide
import Derived.BigQuiet
import Derived.Deep.QuietTactic
import Derived.Maps.AppendAt
import Derived.Deep.OwnRows
import Derived.Handy
import Derived.Deep.Draws
import Derived.OwnWalk
import Derived.Deep.AppendLies
import Derived.Deep.LoopGhost
import Derived.Deep.Onto
import Derived.RangeFuncNested
import Derived.RangeFuncCalls
import Derived.RangeFuncFrom
import Derived.Shelf.Abstract
import Derived.Shelf.RegionOpen
import Derived.OwnWalkIn
import Derived.TacticsInMore
import Derived.LoopNIn
import Derived.LoopIn
import Derived.Deep.MidRow
import Derived.Deep.WholeRow
import Derived.Laws.BitsAllLaws
import Derived.Lib.QuoteBits
import Derived.Deep.RegionHeld3
import Derived.Deep.DeepCutAuto
import Derived.Test.YtokniebejilcbaaShelf
import Derived.Laws.CopyOwn
import Derived.Deep.RegionLaw
import Derived.Great.BuildSlice
import Derived.Laws.AppendOwn
import Derived.Carry
import Derived.Maps.Own
import Derived.ChangeKeysEq
import Derived.Deep.RegionWith
import Derived.Shelf.RegionOpenPlain
import Derived.Lib.SliceRun
import Derived.Deep.DeepAppendRoom
namespace Go.Proofs.Ytokniebejilcbaa
open Go.RowKit
def blkR (ws : List Int) (x : Nat) : List Int := if 2 * x + 2 ≤ ws.length then List.replicate (ws.getD (2 * x) 0).toNat (ws.getD (2 * x + 1) 0) else []
def flK (ws : List Int) (pre : List Nat) : List Int := pre.flatMap (blkR ws)
theorem flK_snoc (ws : List Int) (pre : List Nat) (x : Nat) : flK ws (pre ++ [x]) = flK ws pre ++ blkR ws x := by
 unfold flK; rw [List.flatMap_append, List.flatMap_cons, List.flatMap_nil, List.append_nil]
theorem blkR_short {ws : List Int} {x : Nat} (h : ¬ 2 * x + 2 ≤ ws.length) : blkR ws x = [] := if_neg h
theorem blkR_run {ws : List Int} {x : Nat} (h : 2 * x + 2 ≤ ws.length) : blkR ws x = List.replicate (ws.getD (2 * x) 0).toNat (ws.getD (2 * x + 1) 0) := if_pos h
theorem flK_all : ∀ (N : Nat) (ws : List Int), ws.length ≤ N → flK ws (List.range ((ws.length + 1) / 2)) = flatR ws
  | 0, ws, h => by
    obtain rfl : ws = [] := List.length_eq_zero_iff.1 (by omega)
    rfl
  | N + 1, [], _ => rfl
  | N + 1, [a], _ => by
    rw [show ([a].length + 1) / 2 = 1 by simp, show List.range 1 = [0] by decide]
    unfold flK
    rw [List.flatMap_cons, List.flatMap_nil, blkR_short (by simp)]
    rfl
  | N + 1, a :: p :: r, h => by
    have e : ((a :: p :: r).length + 1) / 2 = (r.length + 1) / 2 + 1 := by simp only [List.length_cons]; omega
    have e2 : ∀ x, blkR (a :: p :: r) (x + 1) = blkR r x := by
      intro x
      unfold blkR
      have e3 : (2 * (x + 1) + 2 ≤ (a :: p :: r).length) ↔ (2 * x + 2 ≤ r.length) := by simp only [List.length_cons]; omega
      by_cases h2 : 2 * x + 2 ≤ r.length
      · rw [if_pos h2, if_pos (e3.2 h2)]; rfl
      · rw [if_neg h2, if_neg (fun k => h2 (e3.1 k))]
    rw [e, List.range_succ_eq_map]
    unfold flK
    rw [List.flatMap_cons, List.flatMap_map]
    simp only [Nat.succ_eq_add_one, e2]
    rw [blkR_run (by simp)]
    show List.replicate a.toNat p ++ flK r (List.range ((r.length + 1) / 2)) = List.replicate a.toNat p ++ flatR r
    rw [flK_all N r (by simp only [List.length_cons] at h; omega)]
theorem flK_pre {ws : List Int} {j : Nat} (h : j ≤ (ws.length + 1) / 2) : flK ws (List.range j) <+: flatR ws := by
 rw [← flK_all ws.length ws (Nat.le_refl _), show (ws.length + 1) / 2 = j + ((ws.length + 1) / 2 - j) by omega, List.range_add]
 unfold flK
 rw [List.flatMap_append]
 exact List.prefix_append _ _
structure WdK (b : Nat) (ws : List Int) (gi : Nat) (V : World) : Prop where
 k : ∃ o, Kept b V gi o
 c : ∀ (k : Nat) (x : Int), ws[k]? = some x → V.cell? ⟨gi, k, none⟩ = some (.int .i64 x)
theorem cell_same {W W' : World} {g : Nat} (h : W'.heap[g]? = W.heap[g]?) (i : Nat) : W'.cell? ⟨g, i, none⟩ = W.cell? ⟨g, i, none⟩ := by
 unfold World.cell?; simp only [h]
theorem WdK.kq {b m : Nat} {ws : List Int} {gi : Nat} {V V' : World} (h : WdK b ws gi V) (hk : Kq b m V V') : WdK b ws gi V' := by
 obtain ⟨o, ho⟩ := h.k
 have h2 := ho.kq hk
 exact ⟨⟨o, h2⟩, fun k x hx => (cell_same (h2.at_.trans ho.at_.symm) k).trans (h.c k x hx)⟩
theorem WdK.getD {b : Nat} {ws : List Int} {gi : Nat} {V : World} (h : WdK b ws gi V) {k : Nat} (hk : k < ws.length) : V.cell? ⟨gi, k, none⟩ = some (.int .i64 (ws.getD k 0)) := h.c k _ (by rw [List.getD_eq_getElem?_getD, List.getElem?_eq_getElem hk]; rfl)
theorem Kept.ownFrom {β : Type} {B b k : Nat} {o : Obj} (hb : b < B) : OwnFrom B (fun (_ : β) V => Kept b V k o ∧ b < V.heap.size) := by
 rintro s W W' row ⟨h, hs⟩ hg hr
 have e1 : W'.heap[b]? = W.heap[b]? := hg.block b hs fun e => by have := (hr b e.symm).1; omega
 refine ⟨⟨(hg.block k (Array.getElem?_eq_some_iff.1 h.at_).1 fun e => ?_).trans h.at_, h.cells, h.ne, fun h2 => h.no ((ownOf_same e1 k).1 h2)⟩, Nat.lt_of_lt_of_le hs hg.size⟩
 obtain ⟨_, o2, h2, h3⟩ := hr k e.symm
 rw [h.at_] at h2
 cases h2
 rw [h.cells] at h3
 cases h3
theorem WdK.ownFrom {β : Type} {B b gi : Nat} {ws : List Int} (hb : b < B) : OwnFrom B (fun (_ : β) V => WdK b ws gi V ∧ b < V.heap.size) := by
 rintro s W W' row ⟨h, hs⟩ hg hr
 obtain ⟨o, ho⟩ := h.k
 obtain ⟨h2, h3⟩ := Kept.ownFrom (β := β) hb s W W' row ⟨ho, hs⟩ hg hr
 exact ⟨⟨⟨o, h2⟩, fun k x hx => (cell_same (h2.at_.trans ho.at_.symm) k).trans (h.c k x hx)⟩, h3⟩
def RpJ (ws : List Int) (b l k gi : Nat) (J : List Int → World → Prop) (pre : List Nat) (V : World) : Prop := J (flK ws pre) V ∧ (Kept b V k (.cells #[.func (.yield l) #[] #[]] 116 (0, 0)) ∧ b < V.heap.size) ∧ (WdK b ws gi V ∧ b < V.heap.size)
def RpX (ws : List Int) (n : Nat) (J Jx : List Int → World → Prop) (pre : List Nat) (V : World) : Prop :=
 ∃ p x, pre = p ++ [x] ∧ ((¬ 2 * x + 2 ≤ n ∧ J (flK ws p) V) ∨ (∃ i : Nat, 2 * x + 2 ≤ n ∧ (i : Int) < ws.getD (2 * x) 0 ∧ Jx (flK ws p ++ List.replicate (i + 1) (ws.getD (2 * x + 1) 0)) V))
def YAns {α : Type} (b m : Nat) (J Jx : List α → World → Prop) (xs : List α) (V : World) (e : Ending) (V' : World) : Prop := ∃ z : Bool, e = .returned (.bool z) ∧ Hid ((z = true ∧ J xs V' ∧ Kq b m V V') ∨ (z = false ∧ Jx xs V' ∧ Kq b m V V'))
attribute [local go_sem] Oper.semAt_some in
set_option maxRecDepth 100000 in
set_option maxHeartbeats 4000000 in
theorem rpI_in (m gi n c Bw b : Nat) (hm : 4 ≤ m) (ws : List Int) (hws : n = ws.length) (hn1 : 1 ≤ n) (hn : n ≤ 2000000) (hnc : n ≤ c) (l : Nat) (J Jx : List Int → World → Prop) (W : World) (hb : b < W.heap.size) (hown : ∀ q, OwnOf b W q → q < W.heap.size)
    (hY : ∀ pre x V, J pre V → YieldAt Fence.wide (m - 1) Try.prog l #[.int .i64 x] V fun e V' => (e = .returned (.bool true) ∧ J (pre ++ [x]) V' ∧ Kq b W.heap.size V V') ∨ (e = .returned (.bool false) ∧ Jx (pre ++ [x]) V' ∧ Kq b W.heap.size V V'))
    (hs : Kept b W Bw (.cells #[.slice (some ⟨gi, 0, none⟩) n c] 26 (0, 0))) (hd : WdK b ws gi W) (hJ : OwnFrom W.heap.size J) (hJx : OwnFrom W.heap.size Jx) (hL : ∀ pre V, J pre V → pre.length ≤ 1000000) (h0 : J [] W) :
    CallsIn Fence.wide m Try.prog 147 #[.func (.yield l) #[] #[], .pointer (some ⟨Bw, 0, none⟩)] W (ItPost (fun xs => xs = flatR ws) (fun pre => pre <+: flatR ws) J Jx) := by
  have hmx : Try.prog.follows .mixedOrders = true := by kernel_rfl
  refine callsIn_of_wp_marks Try.func147 rfl trivial ?_ rfl
  simp only [Try.ntmps147, List.size_toArray, List.length_cons, List.length_nil, Nat.reduceAdd, Nat.reduceSub, Array.replicate_succ, Array.replicate_zero, List.push_toArray, List.append_toArray, List.nil_append, List.cons_append]
  have Hws := Lib.hid hws
  clear hws
  have cs : (W.alloc (.cells #[.func (.yield l) #[] #[]] 116)).cell? ⟨Bw, 0, none⟩ = some (.slice (some ⟨gi, 0, none⟩) n c) := Lib.cell?_alloc_some _ (hs.cell 0 rfl)
  have hb1 := belI_box W (.cells #[.func (.yield l) #[] #[]] 116)
  have hb2 := belI_call (belI_call hb1 (belI_box _ (.cells #[.slice (some ⟨gi, 0, none⟩) n c] 26))) (belI_box _ (.cells #[.int .i64 2] 3))
  obtain ⟨W1, hW1⟩ : ∃ V, V = ((W.alloc (.cells #[.func (.yield l) #[] #[]] 116)).alloc (.cells #[.slice (some ⟨gi, 0, none⟩) n c] 26)).alloc (.cells #[.int .i64 2] 3) := ⟨_, rfl⟩
  have s1 : W1.heap.size = W.heap.size + 3 := by rw [hW1]; simp
  rw [← hW1] at hb2
  have kq := Kq.of_below (m := W.heap.size) hb hb2
  have hown1 : ∀ q, OwnOf b W1 q → q < W.heap.size := fun q h => hown q ((ownOf_same (hb2.block b hb) q).1 h)
  have y1 : Kept b W1 W.heap.size (.cells #[.func (.yield l) #[] #[]] 116 (0, 0)) := ⟨by rw [hW1]; exact (Below.heap_alloc _ _ _ (by simp; omega)).trans ((Below.heap_alloc _ _ _ (by simp)).trans (heap_alloc_new _ _)), rfl, by omega, fun h => by have := hown1 _ h; omega⟩
  have y2 : Kept b W1 (W.heap.size + 1) (.cells #[.slice (some ⟨gi, 0, none⟩) n c] 26 (0, 0)) := ⟨by rw [hW1]; exact (Below.heap_alloc _ _ _ (by simp)).trans (by have := heap_alloc_new (W.alloc (.cells #[.func (.yield l) #[] #[]] 116)) (.cells #[.slice (some ⟨gi, 0, none⟩) n c] 26); rw [World.size_alloc] at this; exact this), rfl, by omega, fun h => by have := hown1 _ h; omega⟩
  have y3 : Kept b W1 (W.heap.size + 1 + 1) (.cells #[.int .i64 2] 3 (0, 0)) := ⟨by
                                                                                           rw [hW1]
                                                                                           have := heap_alloc_new ((W.alloc (.cells #[.func (.yield l) #[] #[]] 116)).alloc (.cells #[.slice (some ⟨gi, 0, none⟩) n c] 26)) (.cells #[.int .i64 2] 3)
                                                                                           rw [World.size_alloc, World.size_alloc] at this
                                                                                           exact this, rfl, by omega, fun h => by have := hown1 _ h; omega⟩
  have hd1 := hd.kq kq
  have J1 : J [] W1 := hJ _ _ _ none h0 (grown_of_below hb2) (fun r e => by cases e)
  have HW1 := Lib.hid hW1
  clear hW1
  gi_wp2
  refine ⟨trivial, fun h => (by cases h), (callsIn_wide.2 (chkI _ _ _ _)).mono ?_⟩
  rintro e w' ⟨rfl, hw'⟩
  rw [← HW1.out] at hw'
  subst hw'
  gi_wp2
  refine range_mine (b := b) (m := W.heap.size) (c := .ret) (encs := chunkV gi n) rfl (by omega) (f := 169) (lb := #[.pointer (some ⟨W.heap.size + 1, 0, none⟩), .pointer (some ⟨W.heap.size + 1 + 1, 0, none⟩)]) rfl trivial (enters_of Try.func169 (by kernel_rfl) rfl)
    (L := fun _ => True) (S := fun xs => xs = List.range ((n + 1) / 2)) (Sp := fun pre => ∃ j, j ≤ (n + 1) / 2 ∧ pre = List.range j) (by omega) (by omega) (fun q h => by have := hown1 q h; omega) ?seq (fun x => rfl)
    (RpJ ws b l W.heap.size gi J)
    (RpX ws n J Jx)
    ?hI ?hIx (fun _ _ _ => trivial) ⟨J1, ⟨y1, by omega⟩, ⟨hd1, by omega⟩⟩ ?act ?assign ?body ?done ?stop
  case assign =>
    intro l2 x W2 K hK
    gi_wp2
    exact hK
  case seq =>
    intro l2 J2 Jx2 V hbV hJ2 _ _ hY2 h2
    exact ckI_in (m - 1) gi n c (W.heap.size + 1) (W.heap.size + 1 + 1) b hn1 hn hnc l2 J2 Jx2 V (Nat.lt_of_lt_of_le (by omega) hbV.size) hY2 (y2.below (by omega) hbV) (y3.below (by omega) hbV) hJ2 h2
  case hI =>
    exact OwnFrom.and (fun s A B row h hg hr => hJ (flK ws s) A B row h hg (fun r e => ⟨by have := (hr r e).1; omega, (hr r e).2⟩)) (OwnFrom.and (Kept.ownFrom (by omega)) (WdK.ownFrom (by omega)))
  case hIx =>
    rintro s A B row ⟨p, x, rfl, h⟩ hg hr
    have hr2 : ∀ r, row = some r → W.heap.size ≤ r ∧ ∃ o : Obj, A.heap[r]? = some o ∧ o.isCells = false := fun r e => ⟨by have := (hr r e).1; omega, (hr r e).2⟩
    rcases h with ⟨h1, h2⟩ | ⟨i, h1, h2, h3⟩
    · exact ⟨p, x, rfl, .inl ⟨h1, hJ _ _ _ _ h2 hg hr2⟩⟩
    · exact ⟨p, x, rfl, .inr ⟨i, h1, h2, hJx _ _ _ _ h3 hg hr2⟩⟩
  case body =>
    rintro l2 pre x V ⟨hj, ⟨hy1, hbV⟩, ⟨hdV, _⟩⟩
    obtain ⟨q, hq⟩ : ∃ q, q = 2 * x := ⟨_, rfl⟩
    obtain ⟨e, he⟩ : ∃ e, e = min 2 (n - q) := ⟨_, rfl⟩
    have Hq := Lib.hid hq
    by_cases h2 : q + 2 ≤ n
    · obtain rfl : e = 2 := by omega
      obtain ⟨cnt, hcnt⟩ : ∃ z, z = ws.getD q 0 := ⟨_, rfl⟩
      obtain ⟨v, hv⟩ : ∃ z, z = ws.getD (q + 1) 0 := ⟨_, rfl⟩
      have c0 := hdV.getD (k := q) (by rw [← Hws.out]; omega)
      rw [← hcnt] at c0
      have Hb : Hid (blkR ws x = List.replicate cnt.toNat v) := Lib.hid (by rw [blkR_run (by rw [← Hws.out, ← hq]; omega), hcnt, hv, hq])
      have Hc := Lib.hid hcnt
      have Hv := Lib.hid hv
      dsimp only [chunkV]
      rw [← hq, ← he]
      clear hq he hcnt hv
      gi_wp2
      gi_loopw [13] (fun i wr => ∃ k : Nat, (k : Int) ≤ max cnt 0 ∧ i = .int .i64 k ∧ J (flK ws pre ++ List.replicate k v) wr ∧ Kq b W.heap.size V wr ∧ (Kept b wr W.heap.size (.cells #[.func (.yield l) #[] #[]] 116 (0, 0)) ∧ b < wr.heap.size) ∧ WdK b ws gi wr) (fun i _ => cnt.toNat - (intOf i).toNat)
      case atStart => exact ⟨0, by omega, rfl, by rw [List.replicate_zero, List.append_nil]; exact hj, Kq.refl _ _ _, ⟨hy1, hbV⟩, hdV⟩
      case round =>
        clear hj hy1 hbV hdV c0
        obtain ⟨k, hk, rfl, hj, hkq, ⟨hy1, hbV⟩, hdV⟩ := hrel
        by_cases hlt : (k : Int) < cnt
        · have hk6 := hL _ _ hj
          rw [List.length_append, List.length_replicate] at hk6
          have k6 : (k : Int) ≤ 1000000 := by omega
          have kw := wrap_in ((k : Int) + 1) (by omega) (by omega)
          have hjd : J (flK ws pre ++ List.replicate k v) wr.drew := hJ _ _ _ none hj (grown_of_below ((Below.refl _ _).drew)) (fun r e => by cases e)
          obtain ⟨fn, tmps, assign, body, hy, hR⟩ := hY _ v wr.drew hjd
          have hR2 : RoundIn Fence.wide (m - 1) Try.prog l fn tmps assign body wr.drew (YAns b W.heap.size J Jx ((flK ws pre ++ List.replicate k v) ++ [v]) wr.drew) := hR.mono fun e V' h => by
            rcases h with ⟨h1, h2, h3⟩ | ⟨h1, h2, h3⟩
            · exact ⟨true, h1, Lib.hid (.inl ⟨rfl, h2, h3⟩)⟩
            · exact ⟨false, h1, Lib.hid (.inr ⟨rfl, h2, h3⟩)⟩
          have cy : wr.drew.cell? ⟨W.heap.size, 0, none⟩ = some (.func (.yield l) #[] #[]) := hy1.cell 0 rfl
          have cv : wr.drew.cell? ⟨gi, q + 1, none⟩ = some (.int .i64 v) := by rw [Hv.out]; exact hdV.getD (by rw [← Hws.out]; omega)
          have kqd : Kq b W.heap.size V wr.drew := hkq.trans (Kq.of_below hbV ((Below.refl _ _).drew))
          have hy2 : Kept b wr.drew W.heap.size (.cells #[.func (.yield l) #[] #[]] 116 (0, 0)) := ⟨hy1.at_, hy1.cells, hy1.ne, hy1.no⟩
          have hd2 : WdK b ws gi wr.drew := hdV.kq (Kq.of_below (m := 0) hbV ((Below.refl _ _).drew))
          gi_wp2
          gi_region_with_o (refine ⟨fun h => (by cases h), ?_⟩; refine (round_any hR2).mono ?_; rintro e W3 ⟨z, rfl, hz⟩)
          all_goals
            rcases hz.out with ⟨rfl, hJ3, hk3⟩ | ⟨rfl, hJx3, hk3⟩
            · have hs3 := hk3.size
              have hbz : b < W3.heap.size := Nat.lt_of_lt_of_le hbV (by simp at hs3; omega)
              have hJ4 : J (flK ws pre ++ List.replicate (k + 1) v) W3 := by rw [List.replicate_succ', ← List.append_assoc]; exact hJ3
              gi_wp2
              go_roundw
              case rel => exact ⟨k + 1, by omega, by go_num, hJ4, kqd.trans hk3, ⟨hy2.kq hk3, hbz⟩, hd2.kq hk3⟩
              case measure => simp [intOf]; omega
            · gi_wp2
              refine ⟨rfl, ?_, pre, x, rfl, .inr ⟨k, by rw [← Hq.out]; exact h2, by rw [← Hq.out, ← Hc.out]; exact hlt, ?_⟩⟩
              · exact kqd.trans hk3
              · rw [← Hq.out, ← Hv.out, List.replicate_succ', ← List.append_assoc]; exact hJx3
        · have hke : k = cnt.toNat := by omega
          gi_wp2
          exact ⟨hkq, by rw [flK_snoc, Hb.out, ← hke]; exact hj, ⟨hy1, hbV⟩, ⟨hdV, hbV⟩⟩
    · have h3 : e < 2 := by omega
      have h3i : (e : Int) < 2 := by omega
      dsimp only [chunkV]
      rw [← hq, ← he]
      clear hq he
      gi_wp2
      exact ⟨rfl, Kq.refl _ _ _, pre, x, rfl, .inl ⟨by rw [← Hq.out]; exact h2, hj⟩⟩
  case done =>
    rintro D xs V hD rfl ⟨hj, _⟩ hK
    rw [Hws.out, flK_all ws.length ws (Nat.le_refl _)] at hj
    gi_wp2
    refine ⟨by simp, .inl ⟨_, _, rfl, run_takeDeferred hK, ?_⟩⟩
    exact ⟨_, results_none rfl _ _ _, ⟨_, rfl⟩, .inl ⟨_, rfl, hJ.putObj _ hj (by omega) hK rfl⟩⟩
  case stop =>
    rintro D pre V hD ⟨j, hj, rfl⟩ ⟨p, x, hpx, h⟩ hK
    have hjx : p = List.range x ∧ j = x + 1 := by
      rcases j with _ | j
      · simp at hpx
      · rw [List.range_succ] at hpx
        obtain ⟨e1, e2⟩ := List.append_inj' hpx rfl
        have e3 : j = x := by simpa using e2
        subst e3
        exact ⟨e1.symm, rfl⟩
    obtain ⟨rfl, rfl⟩ := hjx
    gi_wp2
    refine ⟨by simp, .inl ⟨_, _, rfl, run_takeDeferred hK, ?_⟩⟩
    rcases h with ⟨h1, h2⟩ | ⟨i, h1, h2, h3⟩
    · refine ⟨_, results_none rfl _ _ _, ⟨_, rfl⟩, .inl ⟨_, rfl, ?_⟩⟩
      rw [← flK_all ws.length ws (Nat.le_refl _), ← Hws.out, show (n + 1) / 2 = x + 1 by omega, List.range_succ, flK_snoc, blkR_short (by rw [← Hws.out]; exact h1), List.append_nil]
      exact hJ.putObj _ h2 (by omega) hK rfl
    · refine ⟨_, results_none rfl _ _ _, ⟨_, rfl⟩, .inr ⟨_, ?_, hJx.putObj _ h3 (by omega) hK rfl⟩⟩
      have h4 := flK_pre (ws := ws) (j := x + 1) (by rw [← Hws.out]; exact hj)
      rw [List.range_succ, flK_snoc, blkR_run (by rw [← Hws.out]; exact h1)] at h4
      refine List.IsPrefix.trans ?_ h4
      refine (List.prefix_append_right_inj _).2 ?_
      rw [show (ws.getD (2 * x) 0).toNat = (i + 1) + ((ws.getD (2 * x) 0).toNat - (i + 1)) by omega, ← List.replicate_append_replicate (n := i + 1)]
      exact List.prefix_append _ _
end Go.Proofs.Ytokniebejilcbaa
namespace Go.Proofs.Ytokniebejilcbaa
open Go.RowKit
theorem upTo_ge {p : Nat → Bool} {j n : Nat} (h : ∀ k, k < j → p k = true) (hj : j ≤ n) : j ≤ upTo p n := by
  induction n with
  | zero => omega
  | succ n ih =>
    unfold upTo
    by_cases e : j = n + 1
    · subst e
      rw [upTo_all fun k hk => h k (by omega), if_pos ⟨rfl, h n (by omega)⟩]
      exact Nat.le_refl _
    · have h2 := ih (by omega)
      split <;> omega
theorem tabI_pre (f : Nat → Int) {j n : Nat} (h : j ≤ n) : tabI j f <+: tabI n f := by
 unfold tabI
 rw [show n = j + (n - j) by omega, List.range_add, List.map_append]
 exact List.prefix_append _ _
theorem plB_at {ws : List Int} {W H l : Int} {X x y : Nat} (hX : W = X) (hx : x < X) : plB ws W H l (y * X + x) = decide (0 ≤ wpl W H l x y ∧ wpl W H l x y < ws.length) := by
 unfold plB
 rw [plk_nat _ _ _ X _ hX, plc_mod y hx, plc_div y hx]
theorem plk_at {W H l : Int} {X x y : Nat} (hX : W = X) (hx : x < X) : plk W H l (y * X + x) = (wpl W H l x y).toNat := by
 unfold plk
 rw [plk_nat _ _ _ X _ hX, plc_mod y hx, plc_div y hx]
set_option maxRecDepth 100000 in
set_option maxHeartbeats 4000000 in
theorem spI_in (m X Y n c gi Bh Bx Bl Bw b : Nat) (y0 : Int) (A : Option Addr) (ws : List Int) (hws : n = ws.length) (hn : n ≤ 2000000) (hX : X ≤ 16) (hY0 : Y ≤ 16) (l : Nat) (J Jx : List Int → World → Prop) (W : World) (hb : b < W.heap.size)
  (hY : ∀ pre x V, J pre V → YieldAt Fence.wide (m - 1) Try.prog l #[.int .i64 x] V fun e V' => (e = .returned (.bool true) ∧ J (pre ++ [x]) V' ∧ Kq b W.heap.size V V') ∨ (e = .returned (.bool false) ∧ Jx (pre ++ [x]) V' ∧ Kq b W.heap.size V V'))
  (hh : Kept b W Bh (.cells #[.int .i64 Y] 3 (0, 0))) (hx : Kept b W Bx (.cells #[.int .i64 X] 3 (0, 0))) (hl : Kept b W Bl (.cells #[.int .i64 y0] 3 (0, 0))) (hs : Kept b W Bw (.cells #[.slice A n c] 26 (0, 0)))
  (hd : 1 ≤ n → A = some ⟨gi, 0, none⟩ ∧ WdK b ws gi W) (hJ : OwnFrom W.heap.size J) (h0 : J [] W) (h2 : y0 ≠ 2) :
  CallsIn Fence.wide m Try.prog 114 #[.func (.yield l) #[] #[], .pointer (some ⟨Bh, 0, none⟩), .pointer (some ⟨Bx, 0, none⟩), .pointer (some ⟨Bl, 0, none⟩), .pointer (some ⟨Bw, 0, none⟩)] W (ItPost (fun xs => xs = pixL ws X Y y0) (fun pre => pre <+: pixL ws X Y y0) J Jx) := by
 have Hws := Lib.hid hws
 have HP : Hid (pixL ws X Y y0 = ldPl ws X Y y0 (upTo (plB ws X Y y0) (X * Y))) := Lib.hid (by unfold pixL; rw [if_neg h2, show ((X : Int) * (Y : Int)).toNat = X * Y by exact_mod_cast Int.toNat_natCast (X * Y)])
 obtain ⟨F, hF⟩ : ∃ F, F = fun k => ws.getD (plk X Y y0 k) 0 := ⟨_, rfl⟩
 have HF := Lib.hid hF
 have HT : Hid (∀ k, ldPl ws X Y y0 k = tabI k F) := Lib.hid (fun k => by rw [hF]; rfl)
 clear hws hF h2
 refine callsIn_of_wp Try.func114 rfl trivial ?_ rfl
 simp only [Try.ntmps114, List.size_toArray, List.length_cons, List.length_nil, Nat.reduceAdd, Nat.reduceSub, Array.replicate_succ, Array.replicate_zero, List.push_toArray, List.append_toArray, List.nil_append, List.cons_append]
 have ch : W.cell? ⟨Bh, 0, none⟩ = some (.int .i64 Y) := hh.cell 0 rfl
 gi_wp2
 clear ch
 gi_loopw [10] (fun i wr => ∃ y : Nat, y ≤ Y ∧ i = .int .i64 y ∧ J (tabI (y * X + 0) F) wr ∧ Hid (∀ k, k < y * X + 0 → plB ws X Y y0 k = true) ∧ (Kept b wr Bx (.cells #[.int .i64 X] 3 (0, 0)) ∧ Kept b wr Bh (.cells #[.int .i64 Y] 3 (0, 0)) ∧ Kept b wr Bl (.cells #[.int .i64 y0] 3 (0, 0)) ∧ Kept b wr Bw (.cells #[.slice A n c] 26 (0, 0))) ∧ (1 ≤ n → A = some ⟨gi, 0, none⟩ ∧ WdK b ws gi wr) ∧ b < wr.heap.size ∧ W.heap.size ≤ wr.heap.size) (fun i _ => Y - (intOf i).toNat)
 case atStart => exact ⟨0, Nat.zero_le _, rfl, by rw [Nat.zero_mul]; exact h0, Lib.hid (fun k hk => by omega), ⟨hx, hh, hl, hs⟩, hd, hb, Nat.le_refl _⟩
 case round =>
  clear hx hh hl hs hd hb h0
  obtain ⟨y, hy, rfl, hj, Hall, ⟨hx, hh, hl, hs⟩, hd, hb, hW⟩ := hrel
  by_cases hyl : y < Y
  ·have hyi : (y : Int) < (Y : Int) := by omega
   have cx : wr.cell? ⟨Bx, 0, none⟩ = some (.int .i64 X) := hx.cell 0 rfl
   gi_wp2
   clear cx
   gi_loopw [14] (fun i wz => ∃ x : Nat, x ≤ X ∧ i = .int .i64 x ∧ J (tabI (y * X + x) F) wz ∧ Hid (∀ k, k < y * X + x → plB ws X Y y0 k = true) ∧ (Kept b wz Bx (.cells #[.int .i64 X] 3 (0, 0)) ∧ Kept b wz Bh (.cells #[.int .i64 Y] 3 (0, 0)) ∧ Kept b wz Bl (.cells #[.int .i64 y0] 3 (0, 0)) ∧ Kept b wz Bw (.cells #[.slice A n c] 26 (0, 0))) ∧ (1 ≤ n → A = some ⟨gi, 0, none⟩ ∧ WdK b ws gi wz) ∧ b < wz.heap.size ∧ W.heap.size ≤ wz.heap.size) (fun i _ => X - (intOf i).toNat)
   case atStart => exact ⟨0, Nat.zero_le _, rfl, hj, Hall, ⟨hx, hh, hl, hs⟩, hd, hb, hW⟩
   case round =>
    clear hx hh hl hs hd hb hj Hall hW
    obtain ⟨x, hxX, rfl, hj, Hall, ⟨hx, hh, hl, hs⟩, hd, hb, hW⟩ := hrel
    by_cases hxl : x < X
    ·have hxi : (x : Int) < (X : Int) := by omega
     have cx : wr.cell? ⟨Bx, 0, none⟩ = some (.int .i64 X) := hx.cell 0 rfl
     have ch : wr.cell? ⟨Bh, 0, none⟩ = some (.int .i64 Y) := hh.cell 0 rfl
     have cl : wr.cell? ⟨Bl, 0, none⟩ = some (.int .i64 y0) := hl.cell 0 rfl
     have HPl := fun V => wplI X Y y0 x y V
     unfold IntBe at HPl
     obtain ⟨p, hp⟩ : ∃ p, p = wpl X Y y0 x y := ⟨_, rfl⟩
     rw [← hp] at HPl
     have Hp := Lib.hid hp
     have HPl := Lib.hid HPl
     clear hp
     gi_wp2
     refine ⟨trivial, fun h => (by cases h), (callsIn_wide.2 (HPl.out _)).mono ?_⟩
     rintro e w5 ⟨rfl, hb5⟩
     clear cx ch cl
     have hx5 := hx.below hb hb5
     have hh5 := hh.below hb hb5
     have hl5 := hl.below hb hb5
     have hs5 := hs.below hb hb5
     have hd5 : 1 ≤ n → A = some ⟨gi, 0, none⟩ ∧ WdK b ws gi w5 := fun h => ⟨(hd h).1, (hd h).2.kq (m := 0) (Kq.of_below hb hb5)⟩
     have hj5 := hJ _ _ _ none hj (grown_of_below hb5) (fun r e => by cases e)
     have z5 := hb5.size
     have b5 : b < w5.heap.size := by omega
     have W5 : W.heap.size ≤ w5.heap.size := by omega
     clear hx hh hl hs hd hj hb hb5 hW
     have cw : w5.cell? ⟨Bw, 0, none⟩ = some (.slice A n c) := hs5.cell 0 rfl
     by_cases hin : 0 ≤ p ∧ p < n
     ·obtain ⟨rfl, hd6⟩ := hd5 (by omega)
      obtain ⟨j, rfl⟩ := Int.eq_ofNat_of_zero_le hin.1
      have hjn : j < n := by omega
      have hji : (j : Int) ≤ (n : Int) - 1 := by omega
      have j0 : (0 : Int) ≤ (j : Int) := by omega
      have j1 : (j : Int) < (n : Int) := by omega
      obtain ⟨z, hz⟩ : ∃ z, z = ws.getD j 0 := ⟨_, rfl⟩
      have cz := hd6.getD (k := j) (by rw [← Hws.out]; exact hjn)
      rw [← hz] at cz
      have Hz : Hid (F (y * X + x) = z) := Lib.hid (by rw [HF.out, hz]; show ws.getD (plk X Y y0 (y * X + x)) 0 = _; rw [plk_at rfl hxl, ← Hp.out]; rfl)
      have Ha2 : Hid (∀ k, k < y * X + (x + 1) → plB ws X Y y0 k = true) := Lib.hid (fun k hk => by
       by_cases e : k < y * X + x
       ·exact Hall.out k e
       ·obtain rfl : k = y * X + x := by omega
        rw [plB_at rfl hxl, ← Hp.out, ← Hws.out]
        exact decide_eq_true hin)
      obtain ⟨fn, tmps, assign, body, hy2, hR⟩ := hY _ z w5 hj5
      clear hz hin
      gi_wp2
      refine ⟨trivial, fun h => (by cases h), (callsIn_wide.2 (inI_yes _ _ _ _ j0 hji)).mono ?_⟩
      rintro e w' ⟨rfl, rfl⟩
      gi_wp2
      refine ⟨fun h => (by cases h), hR.mono ?_⟩
      rintro e W3 (⟨rfl, hJ3, hk3⟩ | ⟨rfl, hJx3, hk3⟩)
      ·have z3 := hk3.size
       gi_wp2
       go_roundw
       case rel => exact ⟨x + 1, by omega, by go_num, by show J (tabI ((y * X + x) + 1) F) W3; rw [tabI_succ, Hz.out]; exact hJ3, Ha2, ⟨hx5.kq hk3, hh5.kq hk3, hl5.kq hk3, hs5.kq hk3⟩, fun _ => ⟨by first | rfl | trivial, hd6.kq hk3⟩, by omega, by omega⟩
       case measure => simp [intOf]; omega
      ·gi_wp2
       refine bodyPost_ret (results_none rfl _ _ _) rfl ?_
       refine ⟨⟨_, rfl⟩, .inr ⟨_, ?_, hJx3⟩⟩
       rw [HP.out, HT.out, ← Hz.out, ← tabI_succ]
       exact tabI_pre F (upTo_ge Ha2.out (by have := plc_lt hxl hyl; omega))
     ·have hno : p < 0 ∨ (n : Int) - 1 < p := by omega
      have Hno := Lib.hid hno
      have Hst : Hid (plB ws X Y y0 (y * X + x) = false) := Lib.hid (by rw [plB_at rfl hxl, ← Hp.out, ← Hws.out]; exact decide_eq_false hin)
      clear hno hin
      gi_wp2
      refine ⟨trivial, fun h => (by cases h), (callsIn_wide.2 (inI_no _ _ _ _ Hno.out)).mono ?_⟩
      rintro e w' ⟨rfl, rfl⟩
      gi_wp2
      refine ⟨fun _ h => (by cases h), ?_⟩
      gi_wp2
      refine bodyPost_ret (results_none rfl _ _ _) rfl ?_
      refine ⟨⟨_, rfl⟩, .inl ⟨_, rfl, ?_⟩⟩
      rw [HP.out, upTo_stop Hall.out Hst.out (by have := plc_lt hxl hyl; omega), HT.out]
      exact hj5
    ·obtain rfl : x = X := by omega
     gi_wp2
     go_roundw
     case rel => exact ⟨y + 1, by omega, by go_num, by rw [Nat.add_mul, Nat.one_mul]; exact hj, by rw [Nat.add_mul, Nat.one_mul]; exact Hall, ⟨hx, hh, hl, hs⟩, hd, hb, hW⟩
     case measure => simp [intOf]; omega
  ·obtain rfl : y = Y := by omega
   gi_wp2
   go_end0
   refine ⟨⟨_, rfl⟩, .inl ⟨_, rfl, ?_⟩⟩
   rw [HP.out, upTo_all (fun k hk => Hall.out k (by rw [Nat.add_zero, Nat.mul_comm]; exact hk)), HT.out, Nat.mul_comm]
   exact hj
end Go.Proofs.Ytokniebejilcbaa
namespace Go.Proofs.Ytokniebejilcbaa
open Go.RowKit
set_option maxRecDepth 100000 in
set_option maxHeartbeats 4000000 in
theorem rpI_0 (m c Bw b : Nat) (A : Option Addr) (hm : 4 ≤ m) (l : Nat) (J Jx : List Int → World → Prop) (W : World) (hb : b < W.heap.size) (hown : ∀ q, OwnOf b W q → q < W.heap.size) (hs : Kept b W Bw (.cells #[.slice A 0 c] 26 (0, 0))) (hJ : OwnFrom W.heap.size J) (h0 : J [] W) :
  CallsIn Fence.wide m Try.prog 147 #[.func (.yield l) #[] #[], .pointer (some ⟨Bw, 0, none⟩)] W (ItPost (fun xs => xs = []) (fun _ => False) J Jx) := by
 refine callsIn_of_wp_marks Try.func147 rfl trivial ?_ rfl
 simp only [Try.ntmps147, List.size_toArray, List.length_cons, List.length_nil, Nat.reduceAdd, Nat.reduceSub, Array.replicate_succ, Array.replicate_zero, List.push_toArray, List.append_toArray, List.nil_append, List.cons_append]
 have cs : (W.alloc (.cells #[.func (.yield l) #[] #[]] 116)).cell? ⟨Bw, 0, none⟩ = some (.slice A 0 c) := Lib.cell?_alloc_some _ (hs.cell 0 rfl)
 have hb2 := belI_call (belI_call (belI_box W (.cells #[.func (.yield l) #[] #[]] 116)) (belI_box _ (.cells #[.slice A 0 c] 26))) (belI_box _ (.cells #[.int .i64 2] 3))
 obtain ⟨W1, hW1⟩ : ∃ V, V = ((W.alloc (.cells #[.func (.yield l) #[] #[]] 116)).alloc (.cells #[.slice A 0 c] 26)).alloc (.cells #[.int .i64 2] 3) := ⟨_, rfl⟩
 have s1 : W1.heap.size = W.heap.size + 3 := by rw [hW1]; simp
 rw [← hW1] at hb2
 have hown1 : ∀ q, OwnOf b W1 q → q < W.heap.size := fun q h => hown q ((ownOf_same (hb2.block b hb) q).1 h)
 have y2 : W1.cell? ⟨W.heap.size + 1, 0, none⟩ = some (.slice A 0 c) := by
  rw [hW1]
  exact Lib.cell?_alloc_some _ ((BkAt.newAt (w := W.alloc (.cells #[.func (.yield l) #[] #[]] 116)) (g := W.heap.size + 1) (by simp) 26 #[.slice A 0 c]).cell 0 rfl)
 have J1 : J [] W1 := hJ _ _ _ none h0 (grown_of_below hb2) (fun r e => by cases e)
 have HW1 := Lib.hid hW1
 clear hW1
 gi_wp2
 refine ⟨trivial, fun h => (by cases h), (callsIn_wide.2 (chkI _ _ _ _)).mono ?_⟩
 rintro e w' ⟨rfl, hw'⟩
 rw [← HW1.out] at hw'
 subst hw'
 gi_wp2
 refine range_mine (α := Empty) (b := b) (m := W.heap.size) (c := .ret) (encs := fun x => x.elim) rfl (by omega) (f := 169) (lb := #[.pointer (some ⟨W.heap.size + 1, 0, none⟩), .pointer (some ⟨W.heap.size + 1 + 1, 0, none⟩)]) rfl trivial (enters_of Try.func169 (by kernel_rfl) rfl)
  (L := fun _ => True) (S := fun xs => xs = []) (Sp := fun _ => False) (by omega) (by omega) (fun q h => by have := hown1 q h; omega) ?seq (fun x => x.elim) (fun _ V => J [] V) (fun _ _ => False)
  (fun s A' B row h hg hr => hJ [] A' B row h hg (fun r e => ⟨by have := (hr r e).1; omega, (hr r e).2⟩)) (fun _ _ _ _ h _ _ => h) (fun _ _ _ => trivial) J1 (fun x => x.elim) (fun _ x => x.elim) (fun _ _ x => x.elim) ?done ?stop
 case seq =>
  intro l2 J2 Jx2 V hbV hJ2 _ _ hY2 h2
  exact ckI_0 (m - 1) c (W.heap.size + 1) (W.heap.size + 1 + 1) A l2 J2 Jx2 V ((hbV.cell (p := ⟨W.heap.size + 1, 0, none⟩) (by dsimp only; omega)).trans y2) h2
 case done =>
  rintro D xs V hD rfl hj hK
  gi_wp2
  refine ⟨by simp, .inl ⟨_, _, rfl, run_takeDeferred hK, ?_⟩⟩
  exact ⟨_, results_none rfl _ _ _, ⟨_, rfl⟩, .inl ⟨_, rfl, hJ.putObj _ hj (by omega) hK rfl⟩⟩
 case stop =>
  intro D pre V _ h
  exact h.elim
set_option maxHeartbeats 1000000 in
theorem rpxI (A : Option Addr) (n c : Nat) (w : World) : Calls Try.prog 113 #[.slice A n c] w fun e w' => e = .returned (.func (.func 147) #[] #[.pointer (some ⟨w.heap.size, 0, none⟩)]) ∧ w' = w.alloc (.cells #[.slice A n c] 26) := by
 go_enter Try.func113, Try.ntmps113
 go_wp2_with fail
 go_ret
 exact ⟨rfl, rfl⟩
set_option maxHeartbeats 1000000 in
theorem spxI (A : Option Addr) (n c : Nat) (X Y l : Int) (w : World) (hl : ¬ l = 2) : Calls Try.prog 72 #[.slice A n c, .int .i64 X, .int .i64 Y, .int .i64 l] w fun e w' => e = .returned (.func (.func 114) #[] #[.pointer (some ⟨w.heap.size + 1 + 1, 0, none⟩), .pointer (some ⟨w.heap.size + 1, 0, none⟩), .pointer (some ⟨w.heap.size + 1 + 1 + 1, 0, none⟩), .pointer (some ⟨w.heap.size, 0, none⟩)]) ∧
  w' = (((w.alloc (.cells #[.slice A n c] 26)).alloc (.cells #[.int .i64 X] 3)).alloc (.cells #[.int .i64 Y] 3)).alloc (.cells #[.int .i64 l] 3) := by
 go_enter Try.func72, Try.ntmps72
 go_wp2_with fail
 go_ret
 exact ⟨rfl, rfl⟩
set_option maxHeartbeats 1000000 in
theorem spx2I (A : Option Addr) (n c : Nat) (X Y : Int) (w : World) : Calls Try.prog 72 #[.slice A n c, .int .i64 X, .int .i64 Y, .int .i64 2] w fun e w' => e = .returned (.func (.func 147) #[] #[.pointer (some ⟨w.heap.size + 1 + 1 + 1 + 1, 0, none⟩)]) ∧
  w' = ((((w.alloc (.cells #[.slice A n c] 26)).alloc (.cells #[.int .i64 X] 3)).alloc (.cells #[.int .i64 Y] 3)).alloc (.cells #[.int .i64 2] 3)).alloc (.cells #[.slice A n c] 26) := by
 go_enter Try.func72, Try.ntmps72
 go_wp2_with fail
 refine (rpxI A n c _).mono ?_
 rintro e w' ⟨rfl, rfl⟩
 go_wp2_with fail
 go_ret
 exact ⟨by simp, rfl⟩
theorem Kept.newAt {b k : Nat} {w : World} {cs : Array Value} {t : TypeId} (hk : w.heap.size = k) (hb : b < k) (h : ∀ q, OwnOf b (w.alloc (.cells cs t)) q → q < k) : Kept b (w.alloc (.cells cs t)) k (.cells cs t (0, 0)) := by
 subst hk
 exact ⟨heap_alloc_new _ _, rfl, by omega, fun h2 => by have := h _ h2; omega⟩
theorem sqI (m : Nat) (hm : 4 ≤ m) (A : Option Addr) (n c gi b : Nat) (X Y : Nat) (l : Int) (ws : List Int) (w : World) (hws : n = ws.length) (hn : n ≤ 2000000) (hnc : n ≤ c) (hX : X ≤ 16) (hY0 : Y ≤ 16) (hb : b < w.heap.size) (hown : ∀ q, ¬ OwnOf b w q) (hd : 1 ≤ n → A = some ⟨gi, 0, none⟩ ∧ WdK b ws gi w) :
  Calls Try.prog 72 #[.slice A n c, .int .i64 X, .int .i64 Y, .int .i64 l] w fun e w' => ∃ f lb, e = .returned (.func (.func f) #[] lb) ∧ Below w.heap.size w w' ∧ (∀ args V, (callFunc f args).run Try.prog V = .ok (.enter f args) V) ∧
   SeqMine Fence.wide m Try.prog f lb (fun x : Int => #[.int .i64 x]) b (fun pre => pre.length ≤ 1000000) (fun xs => xs = pixL ws X Y l) (fun pre => pre <+: pixL ws X Y l) w' := by
 have hb1 := belI_box w (.cells #[.slice A n c] 26)
 have hb2 := belI_call hb1 (belI_box _ (.cells #[.int .i64 X] 3))
 have hb3 := belI_call hb2 (belI_box _ (.cells #[.int .i64 Y] 3))
 have hb4 := belI_call hb3 (belI_box _ (.cells #[.int .i64 l] 3))
 have o1 : ∀ q, ¬ OwnOf b (w.alloc (.cells #[.slice A n c] 26)) q := fun q h => hown q ((ownOf_same (hb1.block b hb) q).1 h)
 have o2 : ∀ q, ¬ OwnOf b ((w.alloc (.cells #[.slice A n c] 26)).alloc (.cells #[.int .i64 X] 3)) q := fun q h => hown q ((ownOf_same (hb2.block b hb) q).1 h)
 have o3 : ∀ q, ¬ OwnOf b (((w.alloc (.cells #[.slice A n c] 26)).alloc (.cells #[.int .i64 X] 3)).alloc (.cells #[.int .i64 Y] 3)) q := fun q h => hown q ((ownOf_same (hb3.block b hb) q).1 h)
 have o4 : ∀ q, ¬ OwnOf b ((((w.alloc (.cells #[.slice A n c] 26)).alloc (.cells #[.int .i64 X] 3)).alloc (.cells #[.int .i64 Y] 3)).alloc (.cells #[.int .i64 l] 3)) q := fun q h => hown q ((ownOf_same (hb4.block b hb) q).1 h)
 by_cases hl : l = 2
 ·subst hl
  refine (spx2I A n c X Y w).mono ?_
  rintro e w' ⟨rfl, hw'⟩
  have hb5 := belI_call hb4 (belI_box _ (.cells #[.slice A n c] 26))
  rw [← hw'] at hb5
  have s5 : w'.heap.size = w.heap.size + 5 := by rw [hw']; simp
  have o5 : ∀ q, ¬ OwnOf b w' q := fun q h => hown q ((ownOf_same (hb5.block b hb) q).1 h)
  have y5 : Kept b w' (w.heap.size + 1 + 1 + 1 + 1) (.cells #[.slice A n c] 26 (0, 0)) := by
   rw [hw'] at o5 ⊢
   exact Kept.newAt (by simp) (by omega) fun q h => absurd h (o5 q)
  refine ⟨_, _, rfl, hb5, enters_of Try.func147 (by kernel_rfl) rfl, ?_⟩
  intro l2 J Jx V hbV hJ hJx hL hY h0
  have eP : pixL ws X Y 2 = flatR ws := if_pos rfl
  rw [eP]
  have bV : b < V.heap.size := Nat.lt_of_lt_of_le (by omega) hbV.size
  have oV : ∀ q, OwnOf b V q → q < V.heap.size := fun q h => absurd ((ownOf_same (hbV.block b (by omega)) q).1 h) (o5 q)
  by_cases h1 : 1 ≤ n
  ·obtain ⟨rfl, hk⟩ := hd h1
   exact rpI_in m gi n c _ b hm ws hws h1 hn hnc l2 J Jx V bV oV hY (y5.below (by omega) hbV) ((hk.kq (m := 0) (Kq.of_below hb hb5)).kq (m := 0) (Kq.of_below (by omega) hbV)) hJ hJx hL h0
  ·obtain rfl : n = 0 := by omega
   obtain rfl : ws = [] := List.length_eq_zero_iff.1 hws.symm
   exact (rpI_0 m c _ b A hm l2 J Jx V bV oV (y5.below (by omega) hbV) hJ h0).mono fun e V' h => ⟨h.1, h.2.imp (fun h => h) fun ⟨_, h, _⟩ => h.elim⟩
 ·refine (spxI A n c X Y l w hl).mono ?_
  rintro e w' ⟨rfl, hw'⟩
  rw [← hw'] at hb4 o4
  have s4 : w'.heap.size = w.heap.size + 4 := by rw [hw']; simp
  have y1 := (((Kept.newAt (b := b) (w := w) (cs := #[.slice A n c]) (t := 26) rfl hb fun q h => absurd h (o1 q)).below (by simp; omega) (belI_box _ (.cells #[.int .i64 X] 3))).below (by simp; omega) (belI_box _ (.cells #[.int .i64 Y] 3))).below (by simp; omega) (belI_box _ (.cells #[.int .i64 l] 3))
  have y2 := ((Kept.newAt (b := b) (w := w.alloc (.cells #[.slice A n c] 26)) (k := w.heap.size + 1) (cs := #[.int .i64 X]) (t := 3) (by simp) (by omega) fun q h => absurd h (o2 q)).below (by simp; omega) (belI_box _ (.cells #[.int .i64 Y] 3))).below (by simp; omega) (belI_box _ (.cells #[.int .i64 l] 3))
  have y3 := (Kept.newAt (b := b) (w := (w.alloc (.cells #[.slice A n c] 26)).alloc (.cells #[.int .i64 X] 3)) (k := w.heap.size + 1 + 1) (cs := #[.int .i64 Y]) (t := 3) (by simp) (by omega) fun q h => absurd h (o3 q)).below (by simp; omega) (belI_box _ (.cells #[.int .i64 l] 3))
  have y4 : Kept b w' (w.heap.size + 1 + 1 + 1) (.cells #[.int .i64 l] 3 (0, 0)) := by
   rw [hw'] at o4 ⊢
   exact Kept.newAt (by simp) (by omega) fun q h => absurd h (o4 q)
  rw [← hw'] at y1 y2 y3
  refine ⟨_, _, rfl, hb4, enters_of Try.func114 (by kernel_rfl) rfl, ?_⟩
  intro l2 J Jx V hbV hJ hJx hL hY h0
  have bV : b < V.heap.size := Nat.lt_of_lt_of_le (by omega) hbV.size
  exact spI_in m X Y n c gi _ _ _ _ b l A ws hws hn hX hY0 l2 J Jx V bV hY (y3.below (by omega) hbV) (y2.below (by omega) hbV) (y4.below (by omega) hbV) (y1.below (by omega) hbV) (fun h => ⟨(hd h).1, ((hd h).2.kq (m := 0) (Kq.of_below hb hb4)).kq (m := 0) (Kq.of_below (by omega) hbV)⟩) hJ h0 hl
end Go.Proofs.Ytokniebejilcbaa
namespace Go.Proofs.Ytokniebejilcbaa
open Go.RowKit
theorem rdI_lt {w : World} {v : Value} {L : List Int} (h : RdI w v L) : L ≠ [] → ∀ g, v.ownBlock = some g → g < w.heap.size := by
  intro hne g hg
  rcases h with ⟨rfl, h⟩ | ⟨g0, c, rfl, _, _, hc⟩
  · exact absurd h hne
  · cases L with
    | nil => exact absurd rfl hne
    | cons x r =>
      have e : g0 = g := by simpa [Value.ownBlock] using hg
      subst e
      exact World.block_lt_of_cell? w _ (hc 0 x rfl)
theorem RdI.grownW {w w' : World} {v : Value} {L : List Int} {row : Option Nat} (h : RdI w v L) (hb : w.grownBy w' row) (hr : L ≠ [] → ∀ g, v.ownBlock = some g → some g ≠ row) : RdI w' v L := by
 by_cases hL : L = []
 ·subst hL
  rcases h with h | ⟨g0, c, h1, h2, h3, _⟩
  ·exact .inl h
  ·exact .inr ⟨g0, c, h1, h2, h3, fun k x hk => by simp at hk⟩
 ·exact h.grown hb (hr hL)
def LdAns (I : Im) (b : Bool) (w : World) (e : Ending) (w' : World) : Prop :=
 ∃ u, e = .returned (.tuple #[.agg #[.int .i64 I.w, .int .i64 I.h, u], .bool b]) ∧ w'.ownsRow w.heap.size 3 1 u I.d.length (intCells I.d) ∧ Below w.heap.size w w'
theorem ld_set {w W : World} {lo b n : Nat} {X Y : Int} {A : Option Addr} {c : Nat} {L : List Int} (h : W.ownsRow lo 3 1 (.slice A n c) n (intCells L)) (hn : L.length = n) (hb1 : w.heap.size ≤ b) (hb2 : b < lo) (K : Below w.heap.size w W) :
  LdAns ⟨X, Y, L⟩ true w (.returned (.tuple #[.agg #[.int .i64 X, .int .i64 Y, .slice A n c], .bool true])) (((W.setCell ⟨b, 0, none⟩ (.int .i64 X)).setCell ⟨b, 1, none⟩ (.int .i64 Y)).setCell ⟨b, 2, none⟩ (.slice A n c)) := by
 subst hn
 have hlt := fun g hg => (h.lt g hg).1
 exact ⟨_, rfl, ownI_far (ownI_far (ownI_far (h.mono (by omega)) (fun g hg => by have := hlt g hg; dsimp only; omega) _) (fun g hg => by have := hlt g hg; dsimp only; omega) _) (fun g hg => by have := hlt g hg; dsimp only; omega) _, ((K.setCell hb1 _).setCell hb1 _).setCell hb1 _⟩
theorem ld_zero {w W : World} (b : Nat) (hB : w.heap.size ≤ b) (hb : Below w.heap.size w W) : LdAns ⟨0, 0, []⟩ false w (.returned (.tuple #[.agg #[.int .i64 0, .int .i64 0, .slice none 0 0], .bool false])) (((W.setCell ⟨b, 0, none⟩ (.int .i64 0)).setCell ⟨b, 1, none⟩ (.int .i64 0)).setCell ⟨b, 2, none⟩ (.slice none 0 0)) :=
 ⟨_, rfl, World.ownsRow_nil _ _ _ _, ((hb.setCell hB _).setCell hB _).setCell hB _⟩
theorem st_calls {P : Program} {f : FuncId} {args : Array Value} {M : List Int} {b : Bool} {V : World} (h : Calls P f args V (StAns M b V)) :
  Calls P f args V fun e w' => ∃ A c, e = .returned (.tuple #[.slice A M.length c, .bool b]) ∧ RdI w' (.slice A M.length c) M ∧ Below V.heap.size V w' := h.mono fun e w' ha => by
 obtain ⟨u, bs, rfl, ho, hb2⟩ := ha
 have h2 := repInts_rd ho.r
 obtain ⟨A, c, rfl⟩ := h2.form
 exact ⟨A, c, rfl, h2, hb2⟩
structure LdA (w : World) (r : Nat) (v : Value) (ws : List Int) (V : World) : Prop where
 r : ImAt V r 32 0 0 (.slice none 0 0)
 rd : RdI V v ws
 bw : Below w.heap.size w V
theorem LdA.call {w : World} {r : Nat} {v : Value} {ws : List Int} {V V' : World} (h : LdA w r v ws V) (hb : Below V.heap.size V V') : LdA w r v ws V' := ⟨h.r.call hb, h.rd.call hb, belI_call h.bw hb⟩
theorem LdA.drew {w : World} {r : Nat} {v : Value} {ws : List Int} {V : World} (h : LdA w r v ws V) : LdA w r v ws V.drew := ⟨h.r, h.rd.drew, h.bw.drew⟩
theorem LdA.own {w : World} {r : Nat} {v : Value} {ws : List Int} {V V' : World} {row : Option Nat} (h : LdA w r v ws V) (hr : w.heap.size ≤ r) (hv : ws ≠ [] → ∀ g, v.ownBlock = some g → g < w.heap.size) (hg : V.grownBy V' row) (hk : ∀ k, row = some k → r + 1 ≤ k) : LdA w r v ws V' :=
 ⟨h.r.grown hg (fun e => by have := hk _ e.symm; omega), h.rd.grownW hg (fun hw g hg2 e => by have := hk _ e.symm; have := hv hw _ hg2; omega), h.bw.grown hg h.bw.size (fun k e => by have := hk _ e; omega)⟩
structure LdX (w : World) (r b : Nat) (W H : Int) (v : Value) (ws : List Int) (u : Value) (q : Nat) (D : List Int) (V : World) : Prop where
 o : LdA w r v ws V
 i : ImAt V b 32 W H u
 own : V.ownsRow (b + 1) 3 1 u q (intCells D)
theorem LdX.call {w : World} {r b : Nat} {W H : Int} {v : Value} {ws : List Int} {u : Value} {q : Nat} {D : List Int} {V V' : World} (h : LdX w r b W H v ws u q D V) (hb : Below V.heap.size V V') : LdX w r b W H v ws u q D V' := ⟨h.o.call hb, h.i.call hb, ownI_call h.own hb⟩
end Go.Proofs.Ytokniebejilcbaa
