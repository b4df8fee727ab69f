/- The contracts of the program's damage: which surfaces only one scene has, which stand in different orders. No statement is proved here. -/
import Derived.Test.YtokniebejilcbaaGreatMA
import Derived.Test.YtokniebejilcbaaGreatMC
import Derived.Test.YtokniebejilcbaaGreatMB
import Derived.Test.YtokniebejilcbaaGreatCpyI
import Derived.Test.YtokniebejilcbaaGreatFilB
import Derived.Test.YtokniebejilcbaaGreatSnS
import Derived.Test.YtokniebejilcbaaGreatSnD
import Derived.Test.YtokniebejilcbaaGreatEdH
import Derived.Test.YtokniebejilcbaaGreatSfR
import Derived.Test.YtokniebejilcbaaGreatOrdB
import Derived.Test.YtokniebejilcbaaGreatOrdI
import Derived.Test.YtokniebejilcbaaGreatOrdA
import Derived.Test.YtokniebejilcbaaGreatSclB
import Derived.Test.YtokniebejilcbaaGreatSfP
import Derived.Test.YtokniebejilcbaaGreatOcM
import Derived.Test.YtokniebejilcbaaGreatDmM
import Derived.Test.YtokniebejilcbaaGreatOcI
import Derived.Test.YtokniebejilcbaaGreatProg
import Derived.WalkKit
import Derived.ProofKit
import Derived.OpenShut
import Derived.WalkLawsBesides
import Derived.WalkSpells
import Derived.ShutString
import Derived.ChangeOld
import Derived.Below
import Derived.Lib.Hide
import Derived.BigQuiet
import Derived.Deep.QuietTactic
import Derived.Maps.AppendAt
import Derived.Deep.OwnRows
import Derived.Handy
import Derived.Deep.Draws
import Derived.OwnWalk
import Derived.Deep.AppendLies
import Derived.Deep.LoopGhost
import Derived.Deep.Onto
import Derived.Deep.MidRow
import Derived.Deep.WholeRow
import Derived.Laws.BitsAllLaws
import Derived.Lib.QuoteBits
import Derived.Deep.RegionHeld3
import Derived.Deep.DeepCutAuto
import Derived.Test.YtokniebejilcbaaGreatShelf
import Derived.Laws.CopyOwn
import Derived.Deep.RegionLaw
import Derived.Great.BuildSlice
import Derived.Laws.AppendOwn
import Derived.ChangeKeysEq
import Derived.Deep.RegionWith
import Derived.Maps.RangeWalk
import Derived.Maps.OwnOps
import Derived.Shelf.RegionOpenPlain
import Derived.Lib.SliceRun
import Derived.Deep.DeepAppendRoom
namespace Go.Proofs.YtokniebejilcbaaGreat
open Go.RowKit
theorem bel_grown {V V' : World} (h : Below V.heap.size V V') : V.grownBy V' none := ⟨h.os, h.tape, h.output, h.size, fun i hi _ => h.block i hi⟩
structure DmB (w : World) (s t : Sn) (u v : Value) (V : World) : Prop where
 a : BkAt V w.heap.size 34 #[.int .i64 s.w, .int .i64 s.h, .int .i64 s.back, u]
 b : BkAt V (w.heap.size + 1) 34 #[.int .i64 t.w, .int .i64 t.h, .int .i64 t.back, v]
 bw : Below w.heap.size w V
 sz : w.heap.size + 2 ≤ V.heap.size
theorem DmB.call {w : World} {s t : Sn} {u v : Value} {V V' : World} (h : DmB w s t u v V) (hb : Below V.heap.size V V') : DmB w s t u v V' := ⟨h.a.call hb, h.b.call hb, belI_call h.bw hb, Nat.le_trans h.sz hb.size⟩
theorem DmB.grown {w : World} {s t : Sn} {u v : Value} {V V' : World} (h : DmB w s t u v V) {row : Option Nat} (hlo : ∀ k, row = some k → w.heap.size + 2 ≤ k) (hg : V.grownBy V' row) : DmB w s t u v V' :=
 ⟨h.a.grown hg fun e => by have := hlo _ e.symm; omega, h.b.grown hg fun e => by have := hlo _ e.symm; omega, (Chg.of_grown hg).below h.bw h.bw.size fun b hb => by have := hlo b (by simpa using hb); omega, Nat.le_trans h.sz hg.size⟩
theorem DmB.born (w : World) (s t : Sn) (u v : Value) : DmB w s t u v ((w.alloc (.cells #[.int .i64 s.w, .int .i64 s.h, .int .i64 s.back, u] 34)).alloc (.cells #[.int .i64 t.w, .int .i64 t.h, .int .i64 t.back, v] 34)) :=
 ⟨(BkAt.new _ _ _).call (belI_box _ _), BkAt.newAt (by simp) _ _, belI_call (belI_box _ _) (belI_box _ _), by simp⟩
theorem below_row {w V V' : World} {B n : Nat} {e : TypeId} {u : Value} {xs : List Value} (h : Below w.heap.size w V) (ho : V.ownsRow B e 4 u n xs) (hB : w.heap.size ≤ B) (hg : V.grownBy V' u.ownBlock) : Below w.heap.size w V' :=
 (Chg.of_grown hg).below h h.size fun b hb => by have := (own_ltB ho b hb).1; omega
theorem below_at {w V V' : World} {b : Nat} (h : Below w.heap.size w V) (hB : w.heap.size ≤ b) (hg : V.grownBy V' (some b)) : Below w.heap.size w V' :=
  (Chg.of_grown hg).below h h.size fun k hk => by obtain rfl : k = b := by simpa using hk
                                                  exact hB
theorem row_not_map {V : World} {B n b : Nat} {e : TypeId} {u : Value} {xs : List Value} (ho : V.ownsRow B e 4 u n xs) {es : Array MapEntry} {c : Nat} (hm : V.heap[b]? = some (.map es c)) : u.ownBlock ≠ some b := fun hu => by
 rcases ho.2 with ⟨rfl, _⟩ | ⟨g, cap, cur, rfl, _, hc, _⟩
 ·cases hu
 ·obtain rfl : g = b := by simpa [Value.ownBlock] using hu
  rw [hm] at hc; cases hc
theorem row_not_iter {V : World} {B n b : Nat} {e : TypeId} {u : Value} {xs : List Value} (ho : V.ownsRow B e 4 u n xs) {k : Option Nat} {x c : Nat} {es : Array Nat} (hm : V.heap[b]? = some (.mapIter k x es c)) : u.ownBlock ≠ some b := fun hu => by
 rcases ho.2 with ⟨rfl, _⟩ | ⟨g, cap, cur, rfl, _, hc, _⟩
 ·cases hu
 ·obtain rfl : g = b := by simpa [Value.ownBlock] using hu
  rw [hm] at hc; cases hc
theorem own_map {V V' : World} {B n b n' : Nat} {e : TypeId} {u : Value} {xs : List Value} {D : DataW Value} (ho : V.ownsRow B e 4 u n xs) (hm : V.ownsMap Tryz.prog 3 sfR b n' D) (hg : V.grownBy V' (some b)) : V'.ownsRow B e 4 u n xs := by
 obtain ⟨es, c, h, _⟩ := hm
 refine ho.kept hg ?_
 by_cases hv : u.ownBlock = none
 ·exact .inl hv
 ·exact .inr (row_not_map ho h)
theorem own_iter {V V' : World} {B n b r n' cnt : Nat} {e : TypeId} {u : Value} {xs : List Value} {D : DataW Value} {left : Lit → Bool} (ho : V.ownsRow B e 4 u n xs) (hm : V.ranges Tryz.prog 3 sfR b r n' D left cnt) (hg : V.grownBy V' (some r)) : V'.ownsRow B e 4 u n xs := by
 obtain ⟨es, c, since, seen, c0, _, _, _, _, h, _⟩ := hm
 refine ho.kept hg ?_
 by_cases hv : u.ownBlock = none
 ·exact .inl hv
 ·exact .inr (row_not_iter ho h)
theorem map_row {V V' : World} {B n b n' : Nat} {e : TypeId} {u : Value} {xs : List Value} {D : DataW Value} (hm : V.ownsMap Tryz.prog 3 sfR b n' D) (ho : V.ownsRow B e 4 u n xs) (hg : V.grownBy V' u.ownBlock) : V'.ownsMap Tryz.prog 3 sfR b n' D := by
 have hm' := hm
 obtain ⟨es, c, h, _⟩ := hm
 exact hm'.kept hg fun e => row_not_map ho h e.symm
theorem rng_row {V V' : World} {B n b r n' cnt : Nat} {e : TypeId} {u : Value} {xs : List Value} {D : DataW Value} {left : Lit → Bool} (hm : V.ranges Tryz.prog 3 sfR b r n' D left cnt) (ho : V.ownsRow B e 4 u n xs) (hg : V.grownBy V' u.ownBlock) : V'.ranges Tryz.prog 3 sfR b r n' D left cnt := by
 have hm' := hm
 obtain ⟨es, c, since, seen, c0, h1, _, _, _, h2, _⟩ := hm
 exact hm'.kept hg (fun e => row_not_map ho h1 e.symm) (fun e => row_not_iter ho h2 e.symm)
def sbB (L : List Sf) (i j : Int) : Bool := decide (0 ≤ idxF L i ∧ idxF L i < idxF L j)
theorem sb_yes {L : List Sf} {f g : Sf} (h : dmUp L f g) : sbB L f.id g.id = true := decide_eq_true h
theorem sb_no {L : List Sf} {f g : Sf} (h : ¬ dmUp L f g) : sbB L f.id g.id = false := decide_eq_false h
set_option maxHeartbeats 1000000 in
theorem standsI (s : Sn) (i j : Int) (v : Value) (bs : List Nat) (w : World) (h : repSfs.R w s.fs [v] bs) : Calls Tryz.prog 146 #[.agg #[.int .i64 s.w, .int .i64 s.h, .int .i64 s.back, v], .int .i64 i, .int .i64 j] w fun e w' => e = .returned (.bool (sbB s.fs i j)) ∧ Below w.heap.size w w' := by
 have hA := SnA.born h
 have hB := belI_box w (.cells #[.int .i64 s.w, .int .i64 s.h, .int .i64 s.back, v] 34)
 obtain ⟨⟨A, c, rfl⟩, _⟩ := repSfs_form h
 obtain ⟨d0, d1, d2, d3⟩ := hA.cells
 obtain ⟨p, hp⟩ : ∃ p, p = idxF s.fs i := ⟨_, rfl⟩
 obtain ⟨q, hq⟩ : ∃ q, q = idxF s.fs j := ⟨_, rfl⟩
 have HI := fun V h => idxI s i (.slice A s.fs.length c) bs V h
 have HJ := fun V h => idxI s j (.slice A s.fs.length c) bs V h
 unfold IdxAns at HI HJ
 rw [← hp] at HI
 rw [← hq] at HJ
 have hr : sbB s.fs i j = decide (0 ≤ p ∧ p < q) := by rw [hp, hq]; rfl
 rw [hr]
 have HI := Lib.hid HI
 have HJ := Lib.hid HJ
 clear h hp hq hr
 go_enter Tryz.func146, Tryz.ntmps146
 go_wp2_with fail
 refine (HI.out _ hA.r).mono ?_
 rintro e w1 ⟨rfl, hb⟩
 replace hA := hA.call hb
 replace hB := belI_call hB hb
 clear d0 d1 d2 d3 hb
 obtain ⟨d0, d1, d2, d3⟩ := hA.cells
 by_cases h0 : 0 ≤ p
 ·go_wp2_with fail
  refine (HJ.out _ hA.r).mono ?_
  rintro e w2 ⟨rfl, hb⟩
  replace hB := belI_call hB hb
  clear d0 d1 d2 d3 hb
  by_cases h1 : p < q
  ·go_wp2_with fail
   go_ret
   exact ⟨ret_bool (by simp [h0, h1]), hB⟩
  ·go_wp2_with fail
   go_ret
   exact ⟨ret_bool (by simp [h0]), hB⟩
 ·go_wp2_with fail
  go_ret
  exact ⟨ret_bool (by first | rw [decide_eq_false h0, Bool.false_and] | (simp; omega)), hB⟩
theorem makeMap_hint (n : Int) (w : World) : (Instr.makeMap 171 (some (.int .i64 n))).run Tryz.prog w = .ok (.map (some w.heap.size)) (w.alloc (.map #[] 0)) := by kernel_rfl
theorem dm_take {α : Type} {L : List α} {k : Nat} {x : α} (h : L[k]? = some x) : L.take (k + 1) = L.take k ++ [x] := by rw [List.take_add_one, h]; rfl
set_option maxHeartbeats 2000000 in
set_option maxRecDepth 10000 in
theorem byIdI (s : Sn) (v : Value) (bs : List Nat) (w : World) (hs : snOk s) (h : repSfs.R w s.fs [v] bs) : Calls Tryz.prog 143 #[.agg #[.int .i64 s.w, .int .i64 s.h, .int .i64 s.back, v]] w fun e w' => ∃ b D, e = .returned (.map (some b)) ∧ w'.ownsMap Tryz.prog 3 sfR b 6 D ∧ DmD w D s.fs ∧ w.heap.size ≤ b ∧ Below w.heap.size w w' := by
 have hA := SnA.born h
 have hB := belI_box w (.cells #[.int .i64 s.w, .int .i64 s.h, .int .i64 s.back, v] 34)
 obtain ⟨⟨A, c, rfl⟩, _⟩ := repSfs_form h
 obtain ⟨N, hN⟩ : ∃ N, N = s.fs.length := ⟨_, rfl⟩
 have hN6 : N ≤ 6 := by rw [hN]; exact hs.2.2.1
 rw [← hN] at h hA hB ⊢
 have HN := Lib.hid hN
 have HW := Lib.hid h
 have Hs := Lib.hid hs
 obtain ⟨d0, d1, d2, d3⟩ := hA.cells
 have hmm := makeMap_hint (N : Int)
 obtain ⟨V0, hV0⟩ : ∃ V, V = (w.alloc (.cells #[.int .i64 s.w, .int .i64 s.h, .int .i64 s.back, .slice A N c] 34)).alloc (.map #[] 0) := ⟨_, rfl⟩
 obtain ⟨b, hb⟩ : ∃ b, b = w.heap.size + 1 := ⟨_, rfl⟩
 have hbx := belI_box (w.alloc (.cells #[.int .i64 s.w, .int .i64 s.h, .int .i64 s.back, .slice A N c] 34)) (.map #[] 0)
 have hm0 : V0.ownsMap Tryz.prog 3 sfR b 0 (.map []) := by
  have := World.ownsMap_made (w.alloc (.cells #[.int .i64 s.w, .int .i64 s.h, .int .i64 s.back, .slice A N c] 34)) Tryz.prog 3 sfR
  rw [hV0, hb]; simpa using this
 have HA : Hid (SnA w.heap.size s (.slice A N c) bs V0) := Lib.hid (by rw [hV0]; exact hA.call hbx)
 have HB : Hid (Below w.heap.size w V0) := Lib.hid (by rw [hV0]; exact belI_call hB hbx)
 have HM := Lib.hid hm0
 have HD : Hid (DmD w (.map []) (s.fs.take 0)) := Lib.hid (DmD.made w)
 have HV0 := Lib.hid hV0
 have Hb := Lib.hid hb
 clear h hs hN hA hB hV0 hb hbx hm0
 go_enter Tryz.func143, Tryz.ntmps143
 go_wp2_with fail
 rw [← HV0.out, ← Hb.out]
 clear d0 d1 d2 d3 hmm
 go_loopg [13] N (fun gk s13 wr => ∃ (k : Nat) (D : DataW Value) (V : World), V = wr ∧ k ≤ N ∧ gk = N - k ∧ s13 = .int .i64 k ∧ Hid (SnA w.heap.size s (.slice A N c) bs V) ∧ Hid (Below w.heap.size w V) ∧ Hid (V.ownsMap Tryz.prog 3 sfR b k D) ∧ Hid (DmD w D (s.fs.take k)))
 case atStart => exact ⟨0, _, _, rfl, Nat.zero_le _, by omega, rfl, HA, HB, HM, HD⟩
 case round =>
  clear HA HB HM HD
  obtain ⟨k, D, V, hV, hk, rfl, rfl, HA, HB, HM, HD⟩ := hrel
  subst hV
  by_cases hlt : k < N
  ·obtain ⟨gs, f, d, bd, rfl, hf, hC, hd, hbd⟩ := pl_d HW.out (k := k) (by rw [← HN.out]; exact hlt)
   obtain ⟨⟨Ad, cd, rfl⟩, _⟩ := ints_form hd
   obtain ⟨c0, c1, c2, c3, c4, c5, c6, c7, c8, c9, c10⟩ := hC.call HB.out
   have hfo := Hs.out.2.2.2 k f hf
   have hkey := Maps.keyOf_int_mk (P := Tryz.prog) Tryz.underlying3 (wf_id hfo.1)
   have hno : ∀ g ∈ s.fs.take k, ¬ g.id = f.id := fun g hg e => by
    obtain ⟨j, hj⟩ := List.getElem?_of_mem hg
    have hjk := (List.getElem?_eq_some_iff.1 hj).1
    rw [List.length_take] at hjk
    rw [List.getElem?_take, if_pos (by omega)] at hj
    have h1 := (Hs.out.2.2.2 j g hj).2
    rw [e, hfo.2] at h1
    omega
   have HD2 : Hid (DmD w (D.put (.int .i64 f.id) (.held (.agg #[.int .i64 f.id, .int .i64 f.x, .int .i64 f.y, .int .i64 f.w, .int .i64 f.h, .int .i64 f.alpha, .int .i64 f.orient, .bool f.vis, .int .i64 f.bw, .int .i64 f.bh, .slice Ad f.data.length cd]))) (s.fs.take (k + 1))) := Lib.hid (by
    rw [dm_take hf]
    exact HD.out.put (by obtain ⟨es, h, _⟩ := HM.out.entries keyI; exact ⟨es, h⟩) hno (repInts_rd hd))
   have Hkey := Lib.hid hkey
   have Hbx := Lib.hid (belI_box V (.cells #[.int .i64 f.id, .int .i64 f.x, .int .i64 f.y, .int .i64 f.w, .int .i64 f.h, .int .i64 f.alpha, .int .i64 f.orient, .bool f.vis, .int .i64 f.bw, .int .i64 f.bh, .slice Ad f.data.length cd] 153))
   have HA1 := Lib.hid (HA.out.call Hbx.out)
   have HB1 := Lib.hid (belI_call HB.out Hbx.out)
   have k0 : (0 : Int) ≤ (k : Int) := by omega
   have k1 : (k : Int) < (N : Int) := by omega
   have hblt := HM.out.lt
   have Hlo : Hid (w.heap.size < b) := Lib.hid (by rw [Hb.out]; omega)
   clear hf hC hd hbd hfo hkey hno
   go_wp2_with (at_mapUpdate; refine wpList_mapUpdate_own _ rfl _ _ _ 171 rfl 3 153 keyI Tryz.underlying171 sfR b k D rfl (HM.out.alloc _) (by unfold maxLen; omega) (.int .i64 f.id) (.agg #[.int .i64 f.id, .int .i64 f.x, .int .i64 f.y, .int .i64 f.w, .int .i64 f.h, .int .i64 f.alpha, .int .i64 f.orient, .bool f.vis, .int .i64 f.bw, .int .i64 f.bh, .slice Ad f.data.length cd]) (.int .i64 f.id) rfl rfl Hkey.out (.held (.agg #[.int .i64 f.id, .int .i64 f.x, .int .i64 f.y, .int .i64 f.w, .int .i64 f.h, .int .i64 f.alpha, .int .i64 f.orient, .bool f.vis, .int .i64 f.bw, .int .i64 f.bh, .slice Ad f.data.length cd])) [] rfl ?_)
   intro w2 hown2 hgr2
   have HM2 := Lib.hid hown2
   have HA2 : Hid (SnA w.heap.size s (.slice (some ⟨gs, 0, none⟩) N c) bs w2) := Lib.hid ⟨HA1.out.at_.grown hgr2 (fun e => by have := Option.some.inj e; have := Hlo.out; omega), Rep.call HW.out (below_at HB1.out (by have := Hlo.out; omega) hgr2)⟩
   have HB2 := Lib.hid (below_at HB1.out (by have := Hlo.out; omega) hgr2)
   clear hown2 hgr2 c0 c1 c2 c3 c4 c5 c6 c7 c8 c9 c10 hblt
   go_wp2_with fail
   go_roundg (N - (k + 1))
   case measure => omega
   case rel => exact ⟨k + 1, _, _, rfl, by omega, rfl, by go_num, HA2, HB2, HM2, HD2⟩
  ·obtain rfl : k = N := by omega
   have hfull : s.fs.take k = s.fs := List.take_of_length_le (by rw [← HN.out]; exact Nat.le_refl _)
   have hD := HD.out
   rw [hfull] at hD
   have HD2 := Lib.hid hD
   have Hlo : Hid (w.heap.size ≤ b) := Lib.hid (by rw [Hb.out]; omega)
   clear hfull hD
   go_wp2_with fail
   go_ret
   exact ⟨b, D, rfl, HM.out.mono hN6, HD2.out, Hlo.out, HB.out⟩
noncomputable def rmn (a b : List Sf) (k : Nat) : List Sf := by classical exact a.filter (fun f => decide (f ∉ b.take k))
theorem rmn_mem {a b : List Sf} {k : Nat} {f : Sf} : f ∈ rmn a b k ↔ (f ∈ a ∧ f ∉ b.take k) := by unfold rmn; simp only [List.mem_filter, decide_eq_true_eq]
theorem rmn_zero (a b : List Sf) : rmn a b 0 = a := by unfold rmn; simp
theorem ids_eq {L : List Sf} (h : IdsOk L) {f g : Sf} (hf : f ∈ L) (hg : g ∈ L) (e : f.id = g.id) : f = g := by
 obtain ⟨i, hi⟩ := List.getElem?_of_mem hf
 obtain ⟨j, hj⟩ := List.getElem?_of_mem hg
 have h1 := h i f hi
 have h2 := h j g hj
 rw [e, h2] at h1
 obtain rfl : j = i := by omega
 rw [hi] at hj
 exact Option.some.inj hj
theorem ids_fresh {L : List Sf} (h : IdsOk L) {k : Nat} {f : Sf} (hf : L[k]? = some f) : f ∉ L.take k := fun hg => by
 obtain ⟨j, hj⟩ := List.getElem?_of_mem hg
 have hjk := (List.getElem?_eq_some_iff.1 hj).1
 rw [List.length_take] at hjk
 rw [List.getElem?_take, if_pos (by omega)] at hj
 have h1 := h j f hj
 rw [h k f hf] at h1
 omega
theorem rmn_in {a b : List Sf} (ha : IdsOk a) {k : Nat} {f : Sf} (hf : b[k]? = some f) (hin : f ∈ a) (g : Sf) : g ∈ rmn a b (k + 1) ↔ (g ∈ rmn a b k ∧ ¬ g.id = f.id) := by
 rw [rmn_mem, rmn_mem, dm_take hf, List.mem_append, List.mem_singleton]
 constructor
 ·rintro ⟨h1, h2⟩
  exact ⟨⟨h1, fun e => h2 (.inl e)⟩, fun e => h2 (.inr (ids_eq ha h1 hin e))⟩
 ·rintro ⟨⟨h1, h2⟩, h3⟩
  exact ⟨h1, fun h => h.elim h2 fun e => h3 (by rw [e])⟩
theorem rmn_out {a b : List Sf} {k : Nat} {f : Sf} (hf : b[k]? = some f) (hin : f ∉ a) : rmn a b (k + 1) = rmn a b k := by
 classical
 unfold rmn
 rw [dm_take hf]
 refine List.filter_congr fun g hg => ?_
 simp only [List.mem_append, List.mem_singleton, decide_eq_decide]
 exact ⟨fun h e => h (.inl e), fun h e => e.elim h fun e => hin (e ▸ hg)⟩
def ChgAns (s t : Sn) (w : World) (e : Ending) (w' : World) : Prop := ∃ z L, e = .returned z ∧ w'.ownsRow w.heap.size 111 4 z L.length (rcsCells L) ∧ DmC t.w t.h s.fs t.fs L ∧ L.length ≤ 12 ∧ Below w.heap.size w w'
set_option maxHeartbeats 4000000 in
set_option maxRecDepth 10000 in
theorem chgI (s t : Sn) (u v : Value) (bu bv : List Nat) (w : World) (hs : snOk s) (ht : snOk t) (he : s.w = t.w ∧ s.h = t.h) (hu : repSfs.R w s.fs [u] bu) (hv : repSfs.R w t.fs [v] bv) :
  Calls Tryz.prog 67 #[.agg #[.int .i64 s.w, .int .i64 s.h, .int .i64 s.back, u], .agg #[.int .i64 t.w, .int .i64 t.h, .int .i64 t.back, v]] w (ChgAns s t w) := by
 obtain ⟨⟨Au, cu, rfl⟩, _⟩ := repSfs_form hu
 obtain ⟨⟨A, c, rfl⟩, _⟩ := repSfs_form hv
 obtain ⟨i0, hi, hz0, hz1, hz2⟩ := info2_rc
 obtain ⟨N, hN⟩ : ∃ N, N = t.fs.length := ⟨_, rfl⟩
 obtain ⟨nu, hnu⟩ : ∃ N, N = s.fs.length := ⟨_, rfl⟩
 have hN6 : N ≤ 6 := by rw [hN]; exact ht.2.2.1
 rw [← hN] at hv ⊢
 rw [← hnu] at hu ⊢
 have hX := DmB.born w s t (.slice Au nu cu) (.slice A N c)
 obtain ⟨wA, hwA⟩ : ∃ V, V = (w.alloc (.cells #[.int .i64 s.w, .int .i64 s.h, .int .i64 s.back, .slice Au nu cu] 34)).alloc (.cells #[.int .i64 t.w, .int .i64 t.h, .int .i64 t.back, .slice A N c] 34) := ⟨_, rfl⟩
 rw [← hwA] at hX
 have HU := Lib.hid (Rep.call hu hX.bw)
 have HW := Lib.hid (Rep.call hv hX.bw)
 have hsz : wA.heap.size = w.heap.size + 2 := by rw [hwA]; simp
 have HZ := Lib.hid hsz
 have HN := Lib.hid hN
 have Hs := Lib.hid hs
 have Ht := Lib.hid ht
 have HE := Lib.hid he
 have HBY := Lib.hid (fun V h => byIdI s (.slice Au nu cu) bu V hs h)
 have HS := Lib.hid (fun (V : World) f g d u h1 h2 => ssI f g d u V h1 h2)
 unfold SsAns at HS
 have HR := Lib.hid (fun (V : World) (f : Sf) (d : Value) (hd : RdI V d f.data) => rosI t (.slice A N c) ⟨_, _, _, rfl⟩ f d V hd)
 have HR2 := Lib.hid (fun (V : World) (f : Sf) (d : Value) (hd : RdI V d f.data) => rosI s (.slice Au nu cu) ⟨_, _, _, rfl⟩ f d V hd)
 unfold RcAns at HR HR2
 have HWA := Lib.hid hwA
 have a0 := hX.a.cell 0 rfl
 have a1 := hX.a.cell 1 rfl
 have a2 := hX.a.cell 2 rfl
 have a3 := hX.a.cell 3 rfl
 rw [hwA] at a0 a1 a2 a3
 have HX := Lib.hid hX
 clear hs ht he hu hv hN hnu hX hwA hsz
 go_enter Tryz.func67, Tryz.ntmps67
 go_wp2_with fail
 rw [← HWA.out]
 clear a0 a1 a2 a3
 refine (HBY.out _ HU.out).mono ?_
 rintro e w1 ⟨b, D0, rfl, hM, hD, hlo, hb⟩
 have HX1 := Lib.hid (HX.out.call hb)
 have HM1 := Lib.hid hM
 have HD1 : Hid (DmD wA D0 (rmn s.fs t.fs 0)) := Lib.hid (by rw [rmn_zero]; exact hD)
 have HB1 := Lib.hid hb
 have HLo : Hid (w.heap.size + 2 ≤ b) := Lib.hid (by rw [← HZ.out]; exact hlo)
 have HO1 : Hid (w1.ownsRow (w.heap.size + 2) 111 4 (.slice none 0 0) (dmX (ocR t.w t.h) s.fs (t.fs.take 0)).length (rcsCells (dmX (ocR t.w t.h) s.fs (t.fs.take 0)))) := Lib.hid ⟨rfl, .inl ⟨rfl, rfl⟩⟩
 obtain ⟨b0, b1, b2, b3⟩ := HX1.out.b.cells4
 clear hM hD hb hlo HBY HX
 go_wp2_with fail
 clear b0 b1 b2 b3
 go_loopg [5, 16] N (fun gk s5 s16 wr => ∃ (k : Nat) (u5 : Value) (D : DataW Value) (V : World), V = wr ∧ k ≤ N ∧ gk = N - k ∧ s5 = u5 ∧ s16 = .int .i64 k ∧ Hid (DmB w s t (.slice Au nu cu) (.slice A N c) V) ∧ Hid (V.ownsMap Tryz.prog 3 sfR b 6 D) ∧ Hid (DmD wA D (rmn s.fs t.fs k)) ∧ Hid (Below wA.heap.size wA V) ∧ Hid (V.ownsRow (w.heap.size + 2) 111 4 u5 (dmX (ocR t.w t.h) s.fs (t.fs.take k)).length (rcsCells (dmX (ocR t.w t.h) s.fs (t.fs.take k)))))
 case atStart => exact ⟨0, _, D0, _, rfl, Nat.zero_le _, by omega, rfl, rfl, HX1, HM1, HD1, HB1, HO1⟩
 case round =>
  clear HX1 HM1 HD1 HB1 HO1
  obtain ⟨k, u5, D, V, hV, hk, rfl, rfl, rfl, HX, HM, HD, HB, HO⟩ := hrel
  subst hV
  by_cases hlt : k < N
  ·obtain ⟨gs, f, d, bd, rfl, hf, hC, hd, hbd⟩ := pl_d HW.out (k := k) (by rw [← HN.out]; exact hlt)
   obtain ⟨⟨Ad, cd, rfl⟩, _⟩ := ints_form hd
   have HC0 : Hid (∀ V' : World, Below wA.heap.size wA V' → RdI V' (.slice Ad f.data.length cd) f.data) := Lib.hid fun V' hb => repInts_rd (Rep.call hd hb)
   obtain ⟨c0, c1, c2, c3, c4, c5, c6, c7, c8, c9, c10⟩ := hC.call HB.out
   have hfo := (Ht.out.2.2.2 k f hf).1
   have Hkey := Lib.hid (Maps.keyOf_int_mk (P := Tryz.prog) Tryz.underlying3 (wf_id hfo))
   obtain ⟨V1, hV1⟩ : ∃ V1, V1 = V.alloc (.cells #[.int .i64 f.id, .int .i64 f.x, .int .i64 f.y, .int .i64 f.w, .int .i64 f.h, .int .i64 f.alpha, .int .i64 f.orient, .bool f.vis, .int .i64 f.bw, .int .i64 f.bh, .slice Ad f.data.length cd] 153) := ⟨_, rfl⟩
   obtain ⟨bf, hbf⟩ : ∃ b, b = V.heap.size := ⟨_, rfl⟩
   have hbx : Below V.heap.size V V1 := by rw [hV1]; exact belI_box _ _
   have hX : BkAt V1 bf 153 #[.int .i64 f.id, .int .i64 f.x, .int .i64 f.y, .int .i64 f.w, .int .i64 f.h, .int .i64 f.alpha, .int .i64 f.orient, .bool f.vis, .int .i64 f.bw, .int .i64 f.bh, .slice Ad f.data.length cd] := by rw [hV1, hbf]; exact BkAt.new _ _ _
   have HF := Lib.hid hX
   have HX1 := Lib.hid (HX.out.call hbx)
   have HB1 := Lib.hid (belI_call HB.out hbx)
   have HM1 : Hid (V1.ownsMap Tryz.prog 3 sfR b 6 D) := Lib.hid (by rw [hV1]; exact HM.out.alloc _)
   have HO1 : Hid (V1.ownsRow (w.heap.size + 2) 111 4 u5 (dmX (ocR t.w t.h) s.fs (t.fs.take k)).length (rcsCells (dmX (ocR t.w t.h) s.fs (t.fs.take k)))) := Lib.hid (own_call2 HO.out hbx)
   have k0 : (0 : Int) ≤ (k : Int) := by omega
   have k1 : (k : Int) < (N : Int) := by omega
   have hnx := dmX_take (R := ocR t.w t.h) (M := s.fs) hf
   have hol := dmX_len (ocR t.w t.h) s.fs (t.fs.take k)
   rw [List.length_take] at hol
   have hol2 : (dmX (ocR t.w t.h) s.fs (t.fs.take k)).length ≤ 6 := by omega
   have Hol := Lib.hid hol2
   have HV1 := Lib.hid hV1
   have Hbf := Lib.hid hbf
   have hids := ids_ok Hs.out
   have hidt := ids_ok Ht.out
   by_cases hin : f ∈ s.fs
   ·obtain ⟨d0, hd0, hrun⟩ := look_hit HM1.out HD.out (rmn_mem.2 ⟨hin, ids_fresh hidt hf⟩) hfo
    rw [HV1.out] at hrun
    have HDn := Lib.hid (HD.out.del f.id (rmn_in hids hf hin))
    rw [if_pos hin, List.append_nil] at hnx
    have Hnx := Lib.hid hnx
    have HSS := HS.out V1 f f d0 _ (hd0.call HB1.out) (HC0.out _ HB1.out)
    rw [ssB_yes] at HSS
    have HSS := Lib.hid HSS
    clear hf hC hd hbd hfo hV1 hbf hbx hX hin hnx hol hol2 hids hidt hd0 HX HM HB HO
    go_wp2_with fail
    rw [← HV1.out, ← Hbf.out]
    refine HSS.out.mono ?_
    rintro e w2 ⟨rfl, hb⟩
    have HX2 := Lib.hid (HX1.out.call hb)
    have HB2 := Lib.hid (belI_call HB1.out hb)
    have HM2 := Lib.hid (HM1.out.kept (bel_grown hb) (by simp))
    have HO2 := Lib.hid (own_call2 HO1.out hb)
    have x0 := (HF.out.call hb).cell 0 rfl
    clear hb hrun c0 c1 c2 c3 c4 c5 c6 c7 c8 c9 c10 HX1 HB1 HM1 HO1 HF HSS
    go_wp2_with (at_delete; refine wpList_delete_own _ rfl _ _ 171 3 rfl 153 keyI Tryz.underlying171 sfR b 6 D rfl HM2.out _ (.int .i64 f.id) rfl Hkey.out ?_)
    intro w3 hM3 hturn
    have hgr := hturn.grown
    have HM3 := Lib.hid hM3
    have HX3 := Lib.hid (HX2.out.grown (fun k hk => by have := Option.some.inj hk; have := HLo.out; omega) hgr)
    have HB3 := Lib.hid (below_at HB2.out (by rw [HZ.out]; exact HLo.out) hgr)
    have HO3 : Hid (w3.ownsRow (w.heap.size + 2) 111 4 u5 (dmX (ocR t.w t.h) s.fs (t.fs.take (k + 1))).length (rcsCells (dmX (ocR t.w t.h) s.fs (t.fs.take (k + 1))))) := Lib.hid (by rw [Hnx.out]; exact own_map HO2.out HM2.out hgr)
    clear hM3 hturn hgr x0 HX2 HB2 HM2 HO2
    go_wp2_with fail
    go_roundg (N - (k + 1))
    case measure => omega
    case rel => exact ⟨k + 1, _, _, _, rfl, by omega, rfl, rfl, by go_num, HX3, HM3, HDn, HB3, HO3⟩
   ·obtain ⟨f0, d0, hne, hd0, hrun⟩ : ∃ (f0 : Sf) (d0 : Value), ¬ f0 = f ∧ RdI wA d0 f0.data ∧ (Instr.lookup 171 (.map (some b)) (.int .i64 f.id) false).run Tryz.prog V1 = .ok (.agg #[.int .i64 f0.id, .int .i64 f0.x, .int .i64 f0.y, .int .i64 f0.w, .int .i64 f0.h, .int .i64 f0.alpha, .int .i64 f0.orient, .bool f0.vis, .int .i64 f0.bw, .int .i64 f0.bh, d0]) V1 := by
     by_cases hq : ∃ f0 ∈ rmn s.fs t.fs k, f0.id = f.id
     ·obtain ⟨f0, h1, h2⟩ := hq
      have h3 := (rmn_mem.1 h1).1
      obtain ⟨j, hj⟩ := List.getElem?_of_mem h3
      obtain ⟨d0, h4, h5⟩ := look_hit HM1.out HD.out h1 (Hs.out.2.2.2 j f0 hj).1
      rw [h2] at h5
      exact ⟨f0, d0, fun e => hin (e ▸ h3), h4, by rw [h2]; exact h5⟩
     ·have h5 := look_miss HM1.out HD.out (fun g hg e => hq ⟨g, hg, e⟩) hfo
      exact ⟨⟨0, 0, 0, 0, 0, 0, 0, false, 0, 0, []⟩, .slice none 0 0, fun e => by have := hfo.1; rw [← e] at this; dsimp only at this; omega, RdI.nil wA, h5⟩
    rw [HV1.out] at hrun
    have HDn : Hid (DmD wA D (rmn s.fs t.fs (k + 1))) := Lib.hid (by rw [rmn_out hf hin]; exact HD.out)
    rw [if_neg hin] at hnx
    obtain ⟨q, hq⟩ : ∃ q, q = ocR t.w t.h f := ⟨_, rfl⟩
    rw [← hq] at hnx
    have Hnx := Lib.hid hnx
    have HSS := HS.out V1 f0 f d0 _ (hd0.call HB1.out) (HC0.out _ HB1.out)
    rw [ssB_no hne] at HSS
    have HSS := Lib.hid HSS
    have HRr := fun V h => HR.out V f (.slice Ad f.data.length cd) h
    rw [← hq] at HRr
    have HRr := Lib.hid HRr
    clear hf hC hd hbd hfo hV1 hbf hbx hX hin hnx hol hol2 hids hidt hd0 hne hq HX HM HB HO
    go_wp2_with fail
    rw [← HV1.out, ← Hbf.out]
    refine HSS.out.mono ?_
    rintro e w2 ⟨rfl, hb⟩
    have HX2 := Lib.hid (HX1.out.call hb)
    have HB2 := Lib.hid (belI_call HB1.out hb)
    have HM2 := Lib.hid (HM1.out.kept (bel_grown hb) (by simp))
    have HO2 := Lib.hid (own_call2 HO1.out hb)
    obtain ⟨b0, b1, b2, b3⟩ := HX2.out.b.cells4
    have hF2 := HF.out.call hb
    have x0 := hF2.cell 0 rfl
    have x1 := hF2.cell 1 rfl
    have x2 := hF2.cell 2 rfl
    have x3 := hF2.cell 3 rfl
    have x4 := hF2.cell 4 rfl
    have x5 := hF2.cell 5 rfl
    have x6 := hF2.cell 6 rfl
    have x7 := hF2.cell 7 rfl
    have x8 := hF2.cell 8 rfl
    have x9 := hF2.cell 9 rfl
    have x10 := hF2.cell 10 rfl
    clear hb hF2 hrun c0 c1 c2 c3 c4 c5 c6 c7 c8 c9 c10 HX1 HB1 HM1 HO1 HF HSS
    go_wp2_with fail
    refine (HRr.out _ (HC0.out _ HB2.out)).mono ?_
    rintro e w3 ⟨rfl, hb⟩
    have HX3 := Lib.hid (HX2.out.call hb)
    have HB3 := Lib.hid (belI_call HB2.out hb)
    have HM3 := Lib.hid (HM2.out.kept (bel_grown hb) (by simp))
    have HO3 := Lib.hid (own_call2 HO2.out hb)
    have hq1 := HX3.out.sz
    have hol2 := Hol.out
    clear hb b0 b1 b2 b3 x0 x1 x2 x3 x4 x5 x6 x7 x8 x9 x10 HX2 HB2 HM2 HO2 HRr
    go_wp2_with (at_builtin; refine wpList_append_own _ rfl _ _ 28 rfl (w.heap.size + 2) 111 i0 (.agg #[.int .i64 0, .int .i64 0, .int .i64 0, .int .i64 0]) 4 32 Tryz.underlying28 hi hz0 hz1 hz2 rfl (by decide) _ _ _ rfl (HO3.out.alloc _) ⟨_, 0, none⟩ 1 1 [.int .i64 q.x, .int .i64 q.y, .int .i64 q.w, .int .i64 q.h] rfl rfl (World.news_of_block (cs := #[.int .i64 q.x, .int .i64 q.y, .int .i64 q.w, .int .i64 q.h]) (fr := (0, 0)) (heap_alloc_new _ _)) (by intro u hu; simp at hu; rcases hu with rfl | rfl | rfl | rfl <;> rfl) (by unfold maxLen; omega) (by omega) (by have := hq1; simp; omega) ?_)
    intro v4 w4 hO4 hgr _
    have hbx := belI_box w3 (.cells #[.int .i64 q.x, .int .i64 q.y, .int .i64 q.w, .int .i64 q.h] 111)
    have hO3 := own_call2 HO3.out hbx
    have HO4 : Hid (w4.ownsRow (w.heap.size + 2) 111 4 v4 (dmX (ocR t.w t.h) s.fs (t.fs.take (k + 1))).length (rcsCells (dmX (ocR t.w t.h) s.fs (t.fs.take (k + 1))))) := Lib.hid (by rw [Hnx.out, rcsCells_append, List.length_append]; exact hO4)
    have HX4 := Lib.hid ((HX3.out.call hbx).grown (fun k hk => (own_ltB hO3 k (by rw [hk]; simp)).1) hgr)
    have HB4 := Lib.hid (below_row (belI_call HB3.out hbx) hO3 (by rw [HZ.out]; exact Nat.le_refl _) hgr)
    have HM4 := Lib.hid (map_row (HM3.out.alloc _) hO3 hgr)
    clear hO4 hgr hbx hO3 hq1 hol2 HX3 HB3 HM3 HO3
    go_wp2_with fail
    go_roundg (N - (k + 1))
    case measure => omega
    case rel => exact ⟨k + 1, _, _, _, rfl, by omega, rfl, rfl, by go_num, HX4, HM4, HDn, HB4, HO4⟩
  ·obtain rfl : k = N := by omega
   have hfull : t.fs.take k = t.fs := List.take_of_length_le (by rw [← HN.out]; exact Nat.le_refl _)
   have hO := HO.out
   have hD := HD.out
   obtain ⟨a, ha⟩ : ∃ a, a = rmn s.fs t.fs k := ⟨_, rfl⟩
   have Ha : Hid (∀ f, f ∈ a ↔ (f ∈ s.fs ∧ f ∉ t.fs)) := Lib.hid fun f => by rw [ha, rmn_mem, hfull]
   rw [← ha] at hD
   rw [hfull] at hO
   obtain ⟨M0, hM0⟩ : ∃ M, M = dmX (ocR t.w t.h) s.fs t.fs := ⟨_, rfl⟩
   have HM0 : Hid (∀ r, r ∈ M0 ↔ ∃ f ∈ t.fs, f ∉ s.fs ∧ r = ocR t.w t.h f) := Lib.hid fun r => by rw [hM0]; exact dmX_mem
   have HM6 : Hid (M0.length ≤ 6) := Lib.hid (by rw [hM0]; exact Nat.le_trans (dmX_len _ _ _) (by rw [← HN.out]; exact hN6))
   rw [← hM0] at hO
   have HO0 := Lib.hid hO
   have HD0 := Lib.hid hD
   obtain ⟨n0, hn0⟩ : ∃ n, n = Maps.size D := ⟨_, rfl⟩
   have Hn0 : Hid (n0 ≤ 6) := Lib.hid (by rw [hn0]; exact HM.out.size_le)
   have hni : ¬ (k : Int) < (k : Int) := by omega
   clear hfull hO hD ha hM0 HO HD
   go_wp2_with (at_range; refine wpList_range_own _ rfl _ 171 rfl 3 153 keyI Tryz.underlying171 sfR b 6 D rfl HM.out ?_)
   intro w5 hrg hg5 hs5
   rw [← hn0] at hrg
   obtain ⟨r, hr⟩ : ∃ r, r = V.heap.size := ⟨_, rfl⟩
   rw [← hr] at hrg ⊢
   have Hr : Hid (w.heap.size + 2 ≤ r) := Lib.hid (by rw [hr]; exact HX.out.sz)
   have HRG := Lib.hid hrg
   have hb5 := below_grown0 hg5
   have HX5 := Lib.hid (HX.out.call hb5)
   have HB5 := Lib.hid (belI_call HB.out hb5)
   have HO5 : Hid (w5.ownsRow (w.heap.size + 2) 111 4 u5 (M0 ++ []).length (rcsCells (M0 ++ []))) := Lib.hid (by rw [List.append_nil]; exact own_call2 HO0.out hb5)
   have HK5 : Hid (∀ x : Rc, x ∈ ([] : List Rc) ↔ ∃ f ∈ a, Maps.has D (.int .i64 f.id) = false ∧ x = ocR t.w t.h f) := Lib.hid fun x => ⟨fun h => (by cases h), fun ⟨f, hf, h1, _⟩ => (by rw [(HD0.out.at_ f hf).1] at h1; cases h1)⟩
   have HL5 : Hid (([] : List Rc).length + n0 ≤ 6) := Lib.hid (by have := Hn0.out; simpa using this)
   clear hrg hg5 hs5 hb5 hr hn0 hni HX HB HM HO0
   go_wp2_with fail
   go_loopg [5] n0 (fun gk s5 wr => ∃ (left : Lit → Bool) (u5 : Value) (M : List Rc) (V : World), V = wr ∧ s5 = u5 ∧ Hid (DmB w s t (.slice Au nu cu) (.slice A k c) V) ∧ Hid (V.ranges Tryz.prog 3 sfR b r 6 D left gk) ∧ Hid (Below wA.heap.size wA V) ∧ Hid (V.ownsRow (w.heap.size + 2) 111 4 u5 (M0 ++ M).length (rcsCells (M0 ++ M))) ∧ Hid (∀ x : Rc, x ∈ M ↔ ∃ f ∈ a, left (.int .i64 f.id) = false ∧ x = ocR t.w t.h f) ∧ Hid (M.length + gk ≤ 6))
   case atStart => exact ⟨_, _, [], _, rfl, rfl, HX5, HRG, HB5, HO5, HK5, HL5⟩
   case round =>
    clear HX5 HRG HB5 HO5 HK5 HL5
    obtain ⟨left, u5, M, V, hV, rfl, HX, HRG, HB, HO, HK, HL⟩ := hrel
    subst hV
    go_wp2_with (at_next; refine wpList_next_sf rfl _ rfl b r 6 D left _ rfl HRG.out HD0.out ?_ ?_)
    ·intro hl
     have HC : Hid (DmC t.w t.h s.fs t.fs (M0 ++ M)) := Lib.hid fun x => by
      rw [List.mem_append, HM0.out, HK.out]
      refine or_congr Iff.rfl ⟨fun ⟨f, h1, _, h3⟩ => ⟨f, ((Ha.out f).1 h1).1, ((Ha.out f).1 h1).2, h3⟩, fun ⟨f, h1, h2, h3⟩ => ⟨f, (Ha.out f).2 ⟨h1, h2⟩, hl _, h3⟩⟩
     clear hl
     go_wp2_with fail
     go_ret
     exact ⟨_, _, rfl, HO.out.mono (by omega), HC.out, by rw [List.length_append]; have := HM6.out; have := HL.out; omega, HX.out.bw⟩
    ·intro f d w6 cnt6 hf hlf hd hrg6 hlt6 hg6 hs6 hen
     obtain ⟨Ad, cd, rfl⟩ := hd.form
     have HK6 : Hid (∀ x : Rc, x ∈ M ++ [ocR t.w t.h f] ↔ ∃ g ∈ a, (left (.int .i64 g.id) && !(Lit.int .i64 g.id).sameKey (.int .i64 f.id)) = false ∧ x = ocR t.w t.h g) := Lib.hid fun x => by
      rw [List.mem_append, HK.out, List.mem_singleton]
      constructor
      ·rintro (⟨g, h1, h2, h3⟩ | rfl)
       ·exact ⟨g, h1, by rw [h2]; rfl, h3⟩
       ·exact ⟨f, hf, by rw [WideAt.sameKey_self (show WideAt.IsKeyLit (.int .i64 f.id) from trivial), Bool.not_true, Bool.and_false], rfl⟩
      ·rintro ⟨g, h1, h2, h3⟩
       rcases e : left (.int .i64 g.id) with _ | _
       ·exact .inl ⟨g, h1, e, h3⟩
       ·rw [e, Bool.true_and, Bool.not_eq_false'] at h2
        have e2 := WideAt.sameKey_eq h2
        injection e2 with _ e3
        obtain rfl := ids_eq (ids_ok Hs.out) ((Ha.out g).1 h1).1 ((Ha.out f).1 hf).1 e3
        exact .inr h3
     have HL6 : Hid ((M ++ [ocR t.w t.h f]).length + cnt6 ≤ 6) := Lib.hid (by rw [List.length_append, List.length_singleton]; have := HL.out; omega)
     have HX6 := Lib.hid (HX.out.grown (fun k hk => by have := Option.some.inj hk; have := Hr.out; omega) hg6)
     have HB6 := Lib.hid (below_at HB.out (by rw [HZ.out]; exact Hr.out) hg6)
     have HO6 := Lib.hid (own_iter HO.out HRG.out hg6)
     have HRG6 := Lib.hid hrg6
     have HC0 : Hid (∀ V' : World, Below wA.heap.size wA V' → RdI V' (.slice Ad f.data.length cd) f.data) := Lib.hid fun V' hb => hd.call hb
     obtain ⟨q, hq⟩ : ∃ q, q = ocR t.w t.h f := ⟨_, rfl⟩
     rw [← hq] at HK6 HL6
     have HRr := fun V h => HR2.out V f (.slice Ad f.data.length cd) h
     rw [show ocR s.w s.h f = q by rw [hq, HE.out.1, HE.out.2]] at HRr
     have HRr := Lib.hid HRr
     obtain ⟨V1, hV1⟩ : ∃ V1, V1 = w6.alloc (.cells #[.int .i64 f.id, .int .i64 f.x, .int .i64 f.y, .int .i64 f.w, .int .i64 f.h, .int .i64 f.alpha, .int .i64 f.orient, .bool f.vis, .int .i64 f.bw, .int .i64 f.bh, .slice Ad f.data.length cd] 153) := ⟨_, rfl⟩
     obtain ⟨bf, hbf⟩ : ∃ b, b = w6.heap.size := ⟨_, rfl⟩
     have hbx : Below w6.heap.size w6 V1 := by rw [hV1]; exact belI_box _ _
     have HX1 := Lib.hid (HX6.out.call hbx)
     have HB1 := Lib.hid (belI_call HB6.out hbx)
     have HRG1 : Hid (V1.ranges Tryz.prog 3 sfR b r 6 D (fun z => left z && !z.sameKey (.int .i64 f.id)) cnt6) := Lib.hid (by rw [hV1]; exact HRG6.out.alloc _)
     have HO1 := Lib.hid (own_call2 HO6.out hbx)
     obtain ⟨a0, a1, a2, a3⟩ := HX1.out.a.cells4
     rw [hV1] at a0 a1 a2 a3
     have HV1 := Lib.hid hV1
     have Hbf := Lib.hid hbf
     have Hlt6 := Lib.hid hlt6
     have HLb : Hid (M0.length ≤ 6 ∧ M.length ≤ 6) := Lib.hid ⟨HM6.out, by have := HL.out; omega⟩
     clear hf hlf hd hrg6 hlt6 hg6 hs6 hq hV1 hbf hbx HX HRG HB HO HK HL HX6 HB6 HO6 HRG6
     go_wp2_with fail
     rw [← HV1.out, ← Hbf.out]
     refine (HRr.out _ (HC0.out _ HB1.out)).mono ?_
     rintro e w7 ⟨rfl, hb⟩
     have HX7 := Lib.hid (HX1.out.call hb)
     have HB7 := Lib.hid (belI_call HB1.out hb)
     have HRG7 := Lib.hid (HRG1.out.kept (bel_grown hb) (by simp) (by simp))
     have HO7 := Lib.hid (own_call2 HO1.out hb)
     have hq1 := HX7.out.sz
     have hol2 : (M0 ++ M).length ≤ 12 := by rw [List.length_append]; have := HLb.out; omega
     clear hb hen a0 a1 a2 a3 HX1 HB1 HRG1 HO1 HRr
     go_wp2_with (at_builtin; refine wpList_append_own _ rfl _ _ 28 rfl (w.heap.size + 2) 111 i0 (.agg #[.int .i64 0, .int .i64 0, .int .i64 0, .int .i64 0]) 4 32 Tryz.underlying28 hi hz0 hz1 hz2 rfl (by decide) _ _ _ rfl (HO7.out.alloc _) ⟨_, 0, none⟩ 1 1 [.int .i64 q.x, .int .i64 q.y, .int .i64 q.w, .int .i64 q.h] rfl rfl (World.news_of_block (cs := #[.int .i64 q.x, .int .i64 q.y, .int .i64 q.w, .int .i64 q.h]) (fr := (0, 0)) (heap_alloc_new _ _)) (by intro u hu; simp at hu; rcases hu with rfl | rfl | rfl | rfl <;> rfl) (by unfold maxLen; omega) (by omega) (by have := hq1; simp; omega) ?_)
     intro v8 w8 hO8 hgr _
     have hbx := belI_box w7 (.cells #[.int .i64 q.x, .int .i64 q.y, .int .i64 q.w, .int .i64 q.h] 111)
     have hO7 := own_call2 HO7.out hbx
     have HO8 : Hid (w8.ownsRow (w.heap.size + 2) 111 4 v8 (M0 ++ (M ++ [q])).length (rcsCells (M0 ++ (M ++ [q])))) := Lib.hid (by rw [← List.append_assoc, rcsCells_append, List.length_append, List.length_append]; exact hO8)
     have HX8 := Lib.hid ((HX7.out.call hbx).grown (fun k hk => (own_ltB hO7 k (by rw [hk]; simp)).1) hgr)
     have HB8 := Lib.hid (below_row (belI_call HB7.out hbx) hO7 (by rw [HZ.out]; exact Nat.le_refl _) hgr)
     have HRG8 := Lib.hid (rng_row (HRG7.out.alloc _) hO7 hgr)
     clear hO8 hgr hbx hO7 hq1 hol2 HX7 HB7 HRG7 HO7
     go_wp2_with fail
     go_roundg cnt6
     case measure => exact Hlt6.out
     case rel => exact ⟨_, _, _, _, rfl, rfl, HX8, HRG8, HB8, HO8, HK6, HL6⟩
end Go.Proofs.YtokniebejilcbaaGreat
