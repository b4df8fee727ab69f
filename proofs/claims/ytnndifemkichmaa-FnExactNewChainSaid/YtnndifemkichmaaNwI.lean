/- What NewChain answers; the contract of NewChain of the program. No statement is proved here. -/
import Derived.Test.YtnndifemkichmaaMA
import Derived.Test.YtnndifemkichmaaMB
import Derived.Test.YtnndifemkichmaaLk
import Derived.Test.YtnndifemkichmaaChM
import Derived.Test.YtnndifemkichmaaIsE
import Derived.Test.YtnndifemkichmaaSlE
import Derived.Test.YtnndifemkichmaaChL
import Derived.Test.YtnndifemkichmaaChR
import Derived.Test.YtnndifemkichmaaSnO
import Derived.Test.YtnndifemkichmaaSnS
import Derived.Test.YtnndifemkichmaaSnC
import Derived.Test.YtnndifemkichmaaChB
import Derived.Test.YtnndifemkichmaaProg
import Derived.WalkKit
import Derived.ProofKit
import Derived.OpenShut
import Derived.WalkLawsBesides
import Derived.WalkSpells
import Derived.ShutString
import Derived.ChangeOld
import Derived.Below
import Derived.Lib.Hide
import Derived.BigQuiet
import Derived.Deep.QuietTactic
import Derived.Maps.AppendAt
import Derived.Deep.OwnRows
import Derived.Handy
import Derived.Deep.Draws
import Derived.OwnWalk
import Derived.Deep.AppendLies
import Derived.Deep.LoopGhost
import Derived.Deep.Onto
import Derived.Deep.MidRow
import Derived.Deep.WholeRow
import Derived.Laws.BitsAllLaws
import Derived.Lib.QuoteBits
import Derived.Deep.RegionHeld3
import Derived.Deep.DeepCutAuto
import Derived.Test.YtnndifemkichmaaShelf
import Derived.Laws.CopyOwn
import Derived.Deep.RegionLaw
import Derived.Great.BuildSlice
import Derived.Laws.AppendOwn
import Derived.Shelf.RegionOpenPlain
import Derived.Lib.SliceRun
namespace Go.Proofs.Ytnndifemkichmaa
open Go.RowKit
def nwP (s : Sn) (n : Int) : Prop := snOk s ∧ 1 ≤ n ∧ n ≤ 3
noncomputable def nwM (s : Sn) (n : Int) : Ch := @ite _ (nwP s n) (Classical.propDecidable _) ⟨List.replicate n.toNat (newIm s.w s.h s.back), List.replicate n.toNat 0, [], s⟩ ⟨[], [], [], ⟨0, 0, 0, []⟩⟩
noncomputable def nwB (s : Sn) (n : Int) : Bool := @decide (nwP s n) (Classical.propDecidable _)
theorem nwB_yes {s : Sn} {n : Int} (h : nwP s n) : nwB s n = true := by unfold nwB; simp [h]
theorem nwB_no {s : Sn} {n : Int} (h : ¬ nwP s n) : nwB s n = false := by unfold nwB; simp [h]
theorem nwM_no {s : Sn} {n : Int} (h : ¬ nwP s n) : nwM s n = ⟨[], [], [], ⟨0, 0, 0, []⟩⟩ := by unfold nwM; rw [if_neg h]
theorem nwM_yes {s : Sn} {n : Nat} (h : nwP s n) : nwM s n = ⟨List.replicate n (newIm s.w s.h s.back), List.replicate n 0, [], s⟩ := by unfold nwM; rw [if_pos h, Int.toNat_natCast]
theorem newIm_len (W H p : Int) : (newIm W H p).d.length ≤ 256 := by
 unfold newIm
 split
 ·rename_i hh
  obtain ⟨m, _, hm2, _, hm4⟩ := flat_size hh.1 p
  dsimp only
  rw [hm4, tabI_length]
  exact hm2
 ·simp [zeroIm]
theorem nw_cnt (s : Sn) (n : Int) (h : sizFs s.fs ≤ 1048576) : cntCh (nwM s n) ≤ 100000000 := by
 by_cases hP : nwP s n
 ·obtain ⟨m, rfl⟩ : ∃ m : Nat, n = (m : Int) := ⟨n.toNat, by have := hP.2.1; omega⟩
  have hm := hP.2.2
  have h3 := newIm_len s.w s.h s.back
  have h4 := cnt_le_siz s.fs
  rw [nwM_yes hP]
  have h5 : m = 0 ∨ m = 1 ∨ m = 2 ∨ m = 3 := by omega
  unfold cntCh cntIs lenIs cntGs lenGs
  rcases h5 with rfl | rfl | rfl | rfl <;> simp [List.replicate] <;> omega
 ·rw [nwM_no hP]
  simp [cntCh, cntIs, lenIs, cntGs, lenGs, cntFs, lenFs]
def NwAns (c : Ch) (b : Bool) (w : World) (e : Ending) (w' : World) : Prop := ∃ u0 u1 u2 u3 bs, e = .returned (.tuple #[.agg #[u0, u1, u2, .int .i64 c.s.w, .int .i64 c.s.h, .int .i64 c.s.back, u3], .bool b]) ∧ repCh.Own w.heap.size w' c [u0, u1, u2, .int .i64 c.s.w, .int .i64 c.s.h, .int .i64 c.s.back, u3] bs ∧ Below w.heap.size w w'
theorem nil_own (α : Type) (E : Rep α) (e : TypeId) (s B : Nat) (w : World) : (repSl E e s).Own B w ([] : List α) [.slice none 0 0] [] := ⟨⟨_, [], [], rfl, trivial, fun x hx => by simp at hx, World.ownsRow_nil _ _ _ _, rfl⟩, List.nodup_nil, fun b hb => by simp at hb⟩
theorem nilI_own (B : Nat) (w : World) : repInts.Own B w [] [.slice none 0 0] [] := ⟨⟨_, rfl, World.ownsRow_nil _ _ _ _, rfl⟩, List.nodup_nil, fun b hb => by simp at hb⟩
theorem nw_nil {w W : World} (hb : Below w.heap.size w W) : NwAns ⟨[], [], [], ⟨0, 0, 0, []⟩⟩ false w (.returned (.tuple #[.agg #[.slice none 0 0, .slice none 0 0, .slice none 0 0, .int .i64 0, .int .i64 0, .int .i64 0, .slice none 0 0], .bool false])) W :=
 ⟨_, _, _, _, _, rfl, CnOwn.rep ⟨nil_own _ _ _ _ _ _, nilI_own _ _, nil_own _ _ _ _ _ _, nil_own _ _ _ _ _ _, fun k h => by simp at h, fun k h => by simp at h, fun k h => by simp at h, fun k h => by simp at h, fun k h => by simp at h, fun k h => by simp at h⟩, hb⟩
theorem rep0 (n : Nat) : List.replicate n (0 : Int) = tabI n (fun _ => 0) := by
 apply List.ext_getElem?
 intro j
 by_cases h : j < n
 ·rw [List.getElem?_replicate, if_pos h, tabI_get n _ j h]
 ·rw [List.getElem?_eq_none (by rw [List.length_replicate]; omega), List.getElem?_eq_none (by rw [tabI_length]; omega)]
theorem wp_makeV {op : Oper} {a : Act} {w : World} {K : Act → World → Prop} {Q : Exit → Act → World → Prop} (n d : Nat) (x : Operand) (ho : op.op = .makeSlice 23 x x) (hx : a.eval x = .int .i64 (n : Int)) (hd : op.dst = some d) (hn : n ≤ 1000)
  (h : ∀ g W', Below w.heap.size w W' → W'.ownsRow w.heap.size 3 1 (.slice (some ⟨g, 0, none⟩) n n) n (intCells (tabI n fun _ => 0)) → w.heap.size ≤ g → g < W'.heap.size → K (a.put (some d) (.slice (some ⟨g, 0, none⟩) n n)) W') : op.wp Try.prog a w K Q := by
 have hmk := run_make_row' (P := Try.prog) 23 3 (.int .i64 0) 8 Try.underlying23 infoInt rfl .i64 .i64 n (by omega) (by omega) w
 have hown : (w.alloc (.cells (madeCells #[.int .i64 0] n) 3)).ownsRow w.heap.size 3 1 (.slice (some ⟨w.heap.size, 0, none⟩) n n) n (intCells (tabI n fun _ => 0)) :=
  own_of_rowIs (World.rowIs_made _ _ _ _) (Nat.le_refl _) (by unfold maxLen; omega) (tabI_length _ _) (fun j x hx => by
   have hj : j < n := by have := (List.getElem?_eq_some_iff.1 hx).1; rwa [tabI_length] at this
   rw [tabI_get n _ j hj] at hx
   rw [← Option.some.inj hx])
 have h1 := h w.heap.size _ (belI_box w (.cells (madeCells #[.int .i64 0] n) 3)) hown (Nat.le_refl _) (by simp)
 unfold Oper.wp execOp
 simp only [ho, hx, Sem.run_bind, hmk, Result.andThen_ok, Sem.run_pure]
 rw [← hd] at h1
 exact h1
theorem run_build_im (c0 c1 c2 : Value) (w : World) : (Instr.buildSlice 32 1 #[(0, .agg #[c0, c1, c2])]).run Try.prog w = .ok (.slice (some ⟨w.heap.size, 0, none⟩) 1 1) (w.alloc (.cells #[c0, c1, c2] 58)) := by
 kernel_rfl
theorem wp_build_im {op : Oper} {a : Act} {w : World} {K : Act → World → Prop} {Q : Exit → Act → World → Prop} (dst : Nat) (x : Operand) (f : Im) (d : Value) (ho : op.op = .buildSlice 32 1 #[(0, x)]) (hx : a.eval x = .agg #[.int .i64 f.w, .int .i64 f.h, d]) (hd : op.dst = some dst)
  (h : ∀ g W', Below w.heap.size w W' → BkAt W' g 58 #[.int .i64 f.w, .int .i64 f.h, d] → w.heap.size ≤ g → K (a.put (some dst) (.slice (some ⟨g, 0, none⟩) 1 1)) W') : op.wp Try.prog a w K Q := by
 have h1 := h w.heap.size (w.alloc (.cells #[.int .i64 f.w, .int .i64 f.h, d] 58)) (belI_box _ _) (BkAt.new _ _ _) (Nat.le_refl _)
 have hz := run_build_im (.int .i64 f.w) (.int .i64 f.h) d w
 unfold Oper.wp execOp
 simp only [ho, List.map_toArray, List.map_cons, List.map_nil, hx, Sem.run_bind, hz, Result.andThen_ok, Sem.run_pure]
 rw [← hd] at h1
 exact h1
theorem rep_ims {W : World} {B : Nat} {I : Im} {A : Option Addr} {c g n : Nat} (h : W.ownsRow B 58 3 (.slice (some ⟨g, 0, none⟩) n n) n (List.replicate n [.int .i64 I.w, .int .i64 I.h, .slice A I.d.length c]).flatten) {bs : List Nat} (hr : repInts.R W I.d [.slice A I.d.length c] bs) :
  repIms.R W (List.replicate n I) [.slice (some ⟨g, 0, none⟩) n n] ((Value.slice (some ⟨g, 0, none⟩) n n).ownBlock.toList ++ (List.replicate n bs).flatten) := by
 refine ⟨_, List.replicate n (imCells I (.slice A I.d.length c)), List.replicate n bs, rfl, ?_, fun x hx => by rw [List.eq_of_mem_replicate hx]; rfl, by rw [List.length_replicate]; exact own_rebase h fun _ _ => Nat.zero_le _, rfl⟩
 have hR : repIm.R W I (imCells I (.slice A I.d.length c)) bs := ⟨_, rfl, hr⟩
 clear h
 induction n with
 | zero => trivial
 | succ n ih => exact ⟨hR, ih⟩
structure NwS (w : World) (s : Sn) (v : Value) (cs : List Nat) (b6 : Nat) (I : Im) (d : Value) (W : World) : Prop where
 a : SnA w.heap.size s v cs W
 b : BkAt W b6 58 #[.int .i64 I.w, .int .i64 I.h, d]
 bw : Below w.heap.size w W
 le : w.heap.size + 1 + 1 ≤ W.heap.size
theorem NwS.call {w : World} {s : Sn} {v : Value} {cs : List Nat} {b6 : Nat} {I : Im} {d : Value} {W W' : World} (h : NwS w s v cs b6 I d W) (hb : Below W.heap.size W W') : NwS w s v cs b6 I d W' := ⟨h.a.call hb, h.b.call hb, belI_call h.bw hb, Nat.le_trans h.le hb.size⟩
theorem NwS.cells {w : World} {s : Sn} {v : Value} {cs : List Nat} {b6 : Nat} {I : Im} {d : Value} {W : World} (h : NwS w s v cs b6 I d W) : (W.cell? ⟨w.heap.size, 0, none⟩ = some (.int .i64 s.w) ∧ W.cell? ⟨w.heap.size, 1, none⟩ = some (.int .i64 s.h) ∧ W.cell? ⟨w.heap.size, 2, none⟩ = some (.int .i64 s.back) ∧ W.cell? ⟨w.heap.size, 3, none⟩ = some v) ∧ W.cell? ⟨b6, 0, none⟩ = some (.int .i64 I.w) ∧ W.cell? ⟨b6, 1, none⟩ = some (.int .i64 I.h) ∧ W.cell? ⟨b6, 2, none⟩ = some d :=
 ⟨h.a.cells, h.b.cell 0 rfl, h.b.cell 1 rfl, h.b.cell 2 rfl⟩
theorem NwS.other {w : World} {s : Sn} {v : Value} {cs : List Nat} {b6 : Nat} {I : Im} {d : Value} {W W' : World} (h : NwS w s v cs b6 I d W) (hg : W.grownBy W' (some (w.heap.size + 1))) (h6 : b6 ≠ w.heap.size + 1) (hcs : w.heap.size + 1 ∉ cs) : NwS w s v cs b6 I d W' := by
 have hc : Chg W W' [w.heap.size + 1] := Chg.of_grown hg
 exact ⟨⟨(hc.block _ h.a.at_.lt (by simp)).trans h.a.at_, Rep.chg h.a.r hc fun k hk e => hcs (by rw [← List.mem_singleton.1 e]; exact hk)⟩, (hc.block _ h.b.lt (by simpa using h6)).trans h.b, hc.below h.bw h.bw.size (fun k hk => by rw [List.mem_singleton.1 hk]; omega), Nat.le_trans h.le hc.size⟩
theorem own_callN {w w' : World} {B n z : Nat} {e : TypeId} {v : Value} {xs : List Value} (h : w.ownsRow B e z v n xs) (hb : Below w.heap.size w w') : w'.ownsRow B e z v n xs := own_keepB h fun b hb' => hb.block b (own_ltB h b hb').2
theorem nw_own {B B' n ga : Nat} {W : World} {s : Sn} {L : List Im} {a d : Value} {bsB bsS : List Nat} (h1 : repIms.Own B' W L [a] bsB) (h2 : repInts.Own B' W (List.replicate n 0) [.slice (some ⟨ga, 0, none⟩) n n] (Value.slice (some ⟨ga, 0, none⟩) n n).ownBlock.toList) (h4 : repSfs.Own B' W s.fs [d] bsS)
  (n12 : ∀ q ∈ bsB, q ≠ ga) (n14 : ∀ q ∈ bsB, q ∉ bsS) (n24 : ga ∉ bsS) (hB : B ≤ B') : repCh.Own B W ⟨L, List.replicate n 0, [], s⟩ [a, .slice (some ⟨ga, 0, none⟩) n n, .slice none 0 0, .int .i64 s.w, .int .i64 s.h, .int .i64 s.back, d] (bsB ++ ((Value.slice (some ⟨ga, 0, none⟩) n n).ownBlock.toList ++ ([] ++ bsS))) :=
 CnOwn.rep (f := ⟨L, List.replicate n 0, [], s⟩) ⟨h1.mono hB, h2.mono hB, nil_own _ _ _ _ _ _, h4.mono hB, fun k h h' => n12 k h (by simpa [Value.ownBlock] using h'), fun k h h' => by simp at h', n14, fun k h h' => by simp at h', fun k h h' => by have e : k = ga := (by simpa [Value.ownBlock] using h); exact n24 (e ▸ h'), fun k h => by simp at h⟩
set_option maxHeartbeats 8000000 in
set_option maxRecDepth 10000 in
theorem nwI (s : Sn) (v : Value) (cs : List Nat) (k : Int) (w : World) (hm : sizFs s.fs ≤ 2097152) (hs : repSfs.R w s.fs [v] cs) :
  Calls Try.prog 17 #[.agg #[.int .i64 s.w, .int .i64 s.h, .int .i64 s.back, v], .int .i64 k] w (NwAns (nwM s k) (nwB s k) w) := by
 obtain ⟨⟨Av, cv, rfl⟩, _⟩ := repSfs_form hs
 have hA : SnA w.heap.size s (.slice Av s.fs.length cv) cs ((w.alloc (.cells #[.int .i64 s.w, .int .i64 s.h, .int .i64 s.back, .slice Av s.fs.length cv] 36)).alloc (.cells #[.slice none 0 0, .slice none 0 0, .slice none 0 0, .int .i64 0, .int .i64 0, .int .i64 0, .slice none 0 0] 38)) := (SnA.born hs).call (belI_box _ _)
 have hZ : BkAt ((w.alloc (.cells #[.int .i64 s.w, .int .i64 s.h, .int .i64 s.back, .slice Av s.fs.length cv] 36)).alloc (.cells #[.slice none 0 0, .slice none 0 0, .slice none 0 0, .int .i64 0, .int .i64 0, .int .i64 0, .slice none 0 0] 38)) (w.heap.size + 1) 38 #[.slice none 0 0, .slice none 0 0, .slice none 0 0, .int .i64 0, .int .i64 0, .int .i64 0, .slice none 0 0] := BkAt.newAt (by simp) _ _
 have hB : Below w.heap.size w ((w.alloc (.cells #[.int .i64 s.w, .int .i64 s.h, .int .i64 s.back, .slice Av s.fs.length cv] 36)).alloc (.cells #[.slice none 0 0, .slice none 0 0, .slice none 0 0, .int .i64 0, .int .i64 0, .int .i64 0, .slice none 0 0] 38)) := belI_call (belI_box _ _) (belI_box _ _)
 have HN := Lib.hid (snI s _ cs _ hA.r)
 unfold SnOkAns at HN
 obtain ⟨x0, x1, x2, x3⟩ := hA.cells
 have HA := Lib.hid hA
 have HZ := Lib.hid hZ
 have HB := Lib.hid hB
 have Hsz := Lib.hid hm
 have HS0 := Lib.hid hs
 clear hs hA hZ hB hm
 by_cases q0 : snOk s
 rotate_left
 ·have hno : ¬ nwP s k := fun h => q0 h.1
  rw [nwM_no hno, nwB_no hno]
  rw [snB_no q0] at HN
  go_enter Try.func17, Try.ntmps17
  go_wp2_with fail
  refine HN.out.mono ?_
  rintro e w1 ⟨rfl, hb⟩
  have hZ1 := HZ.out.call hb
  have HB1 := Lib.hid (belI_call HB.out hb)
  have z0 := hZ1.cell 0 rfl
  have f0 := hZ1.frozen 0
  have z1 := hZ1.cell 1 rfl
  have f1 := hZ1.frozen 1
  have z2 := hZ1.cell 2 rfl
  have f2 := hZ1.frozen 2
  have z3 := hZ1.cell 3 rfl
  have f3 := hZ1.frozen 3
  have z4 := hZ1.cell 4 rfl
  have f4 := hZ1.frozen 4
  have z5 := hZ1.cell 5 rfl
  have f5 := hZ1.frozen 5
  have z6 := hZ1.cell 6 rfl
  have f6 := hZ1.frozen 6
  clear x0 x1 x2 x3 hb hno
  go_wp2_with fail
  have t0 := hZ1
  have t1 := t0.put (cs' := #[.slice none 0 0, .slice none 0 0, .slice none 0 0, .int .i64 0, .int .i64 0, .int .i64 0, .slice none 0 0]) 0 (.slice none 0 0) rfl
  have t2 := t1.put (cs' := #[.slice none 0 0, .slice none 0 0, .slice none 0 0, .int .i64 0, .int .i64 0, .int .i64 0, .slice none 0 0]) 1 (.slice none 0 0) rfl
  have t3 := t2.put (cs' := #[.slice none 0 0, .slice none 0 0, .slice none 0 0, .int .i64 0, .int .i64 0, .int .i64 0, .slice none 0 0]) 2 (.slice none 0 0) rfl
  have t4 := t3.put (cs' := #[.slice none 0 0, .slice none 0 0, .slice none 0 0, .int .i64 0, .int .i64 0, .int .i64 0, .slice none 0 0]) 3 (.int .i64 0) rfl
  have t5 := t4.put (cs' := #[.slice none 0 0, .slice none 0 0, .slice none 0 0, .int .i64 0, .int .i64 0, .int .i64 0, .slice none 0 0]) 4 (.int .i64 0) rfl
  have t6 := t5.put (cs' := #[.slice none 0 0, .slice none 0 0, .slice none 0 0, .int .i64 0, .int .i64 0, .int .i64 0, .slice none 0 0]) 5 (.int .i64 0) rfl
  have t7 := t6.put (cs' := #[.slice none 0 0, .slice none 0 0, .slice none 0 0, .int .i64 0, .int .i64 0, .int .i64 0, .slice none 0 0]) 6 (.slice none 0 0) rfl
  have y0 := t7.cell 0 rfl
  have y1 := t7.cell 1 rfl
  have y2 := t7.cell 2 rfl
  have y3 := t7.cell 3 rfl
  have y4 := t7.cell 4 rfl
  have y5 := t7.cell 5 rfl
  have y6 := t7.cell 6 rfl
  exact bodyPost_ret (v := .tuple #[.agg #[.slice none 0 0, .slice none 0 0, .slice none 0 0, .int .i64 0, .int .i64 0, .int .i64 0, .slice none 0 0], .bool false]) (by simp [results, Try.results17, go_sem, y0, y1, y2, y3, y4, y5, y6]) rfl (nw_nil (((((((HB1.out.setCell (p := ⟨w.heap.size + 1, 0, none⟩) (by dsimp only; omega) (.slice none 0 0)).setCell (p := ⟨w.heap.size + 1, 1, none⟩) (by dsimp only; omega) (.slice none 0 0)).setCell (p := ⟨w.heap.size + 1, 2, none⟩) (by dsimp only; omega) (.slice none 0 0)).setCell (p := ⟨w.heap.size + 1, 3, none⟩) (by dsimp only; omega) (.int .i64 0)).setCell (p := ⟨w.heap.size + 1, 4, none⟩) (by dsimp only; omega) (.int .i64 0)).setCell (p := ⟨w.heap.size + 1, 5, none⟩) (by dsimp only; omega) (.int .i64 0)).setCell (p := ⟨w.heap.size + 1, 6, none⟩) (by dsimp only; omega) (.slice none 0 0)))
 rw [snB_yes q0] at HN
 by_cases q1 : 1 ≤ k ∧ k ≤ 3
 rotate_left
 ·have hno : ¬ nwP s k := fun h => q1 h.2
  rw [nwM_no hno, nwB_no hno]
  have q1' : k < 1 ∨ 3 < k := by omega
  go_enter Try.func17, Try.ntmps17
  go_wp2_with fail
  refine HN.out.mono ?_
  rintro e w1 ⟨rfl, hb⟩
  have hZ1 := HZ.out.call hb
  have HB1 := Lib.hid (belI_call HB.out hb)
  have z0 := hZ1.cell 0 rfl
  have f0 := hZ1.frozen 0
  have z1 := hZ1.cell 1 rfl
  have f1 := hZ1.frozen 1
  have z2 := hZ1.cell 2 rfl
  have f2 := hZ1.frozen 2
  have z3 := hZ1.cell 3 rfl
  have f3 := hZ1.frozen 3
  have z4 := hZ1.cell 4 rfl
  have f4 := hZ1.frozen 4
  have z5 := hZ1.cell 5 rfl
  have f5 := hZ1.frozen 5
  have z6 := hZ1.cell 6 rfl
  have f6 := hZ1.frozen 6
  clear x0 x1 x2 x3 hb hno
  go_wp2_with fail
  refine (inI_no _ _ _ _ q1').mono ?_
  rintro e w2 ⟨rfl, rfl⟩
  go_wp2_with fail
  have t0 := hZ1
  have t1 := t0.put (cs' := #[.slice none 0 0, .slice none 0 0, .slice none 0 0, .int .i64 0, .int .i64 0, .int .i64 0, .slice none 0 0]) 0 (.slice none 0 0) rfl
  have t2 := t1.put (cs' := #[.slice none 0 0, .slice none 0 0, .slice none 0 0, .int .i64 0, .int .i64 0, .int .i64 0, .slice none 0 0]) 1 (.slice none 0 0) rfl
  have t3 := t2.put (cs' := #[.slice none 0 0, .slice none 0 0, .slice none 0 0, .int .i64 0, .int .i64 0, .int .i64 0, .slice none 0 0]) 2 (.slice none 0 0) rfl
  have t4 := t3.put (cs' := #[.slice none 0 0, .slice none 0 0, .slice none 0 0, .int .i64 0, .int .i64 0, .int .i64 0, .slice none 0 0]) 3 (.int .i64 0) rfl
  have t5 := t4.put (cs' := #[.slice none 0 0, .slice none 0 0, .slice none 0 0, .int .i64 0, .int .i64 0, .int .i64 0, .slice none 0 0]) 4 (.int .i64 0) rfl
  have t6 := t5.put (cs' := #[.slice none 0 0, .slice none 0 0, .slice none 0 0, .int .i64 0, .int .i64 0, .int .i64 0, .slice none 0 0]) 5 (.int .i64 0) rfl
  have t7 := t6.put (cs' := #[.slice none 0 0, .slice none 0 0, .slice none 0 0, .int .i64 0, .int .i64 0, .int .i64 0, .slice none 0 0]) 6 (.slice none 0 0) rfl
  have y0 := t7.cell 0 rfl
  have y1 := t7.cell 1 rfl
  have y2 := t7.cell 2 rfl
  have y3 := t7.cell 3 rfl
  have y4 := t7.cell 4 rfl
  have y5 := t7.cell 5 rfl
  have y6 := t7.cell 6 rfl
  exact bodyPost_ret (v := .tuple #[.agg #[.slice none 0 0, .slice none 0 0, .slice none 0 0, .int .i64 0, .int .i64 0, .int .i64 0, .slice none 0 0], .bool false]) (by simp [results, Try.results17, go_sem, y0, y1, y2, y3, y4, y5, y6]) rfl (nw_nil (((((((HB1.out.setCell (p := ⟨w.heap.size + 1, 0, none⟩) (by dsimp only; omega) (.slice none 0 0)).setCell (p := ⟨w.heap.size + 1, 1, none⟩) (by dsimp only; omega) (.slice none 0 0)).setCell (p := ⟨w.heap.size + 1, 2, none⟩) (by dsimp only; omega) (.slice none 0 0)).setCell (p := ⟨w.heap.size + 1, 3, none⟩) (by dsimp only; omega) (.int .i64 0)).setCell (p := ⟨w.heap.size + 1, 4, none⟩) (by dsimp only; omega) (.int .i64 0)).setCell (p := ⟨w.heap.size + 1, 5, none⟩) (by dsimp only; omega) (.int .i64 0)).setCell (p := ⟨w.heap.size + 1, 6, none⟩) (by dsimp only; omega) (.slice none 0 0)))
 obtain ⟨n, rfl⟩ : ∃ n : Nat, k = (n : Int) := ⟨k.toNat, by omega⟩
 have h1 : 1 ≤ n := by omega
 have h2 : n ≤ 3 := by omega
 have h1i : (1 : Int) ≤ (n : Int) := by omega
 have h2i : (n : Int) ≤ 3 := by omega
 have hP : nwP s n := ⟨q0, h1i, h2i⟩
 rw [nwM_yes hP, nwB_yes hP]
 obtain ⟨I, hI⟩ : ∃ I, I = newIm s.w s.h s.back := ⟨_, rfl⟩
 have hIl : I.d.length ≤ 256 := by
  rw [hI]
  unfold newIm
  split
  ·rename_i hh
   obtain ⟨m, _, hm2, _, hm4⟩ := flat_size hh.1 s.back
   dsimp only
   rw [hm4, tabI_length]
   exact hm2
  ·simp [zeroIm]
 have HI := Lib.hid (fun W => newI s.w s.h s.back W)
 unfold AnsIm ImAns at HI
 rw [← hI] at HI ⊢
 have HIl := Lib.hid hIl
 clear q0 q1 hP hI hIl
 go_enter Try.func17, Try.ntmps17
 go_wp2_with fail
 refine HN.out.mono ?_
 rintro e w1 ⟨rfl, hb⟩
 have HA1 := Lib.hid (HA.out.call hb)
 have HZ1 := Lib.hid (HZ.out.call hb)
 have HB1 := Lib.hid (belI_call HB.out hb)
 have hcs : w.heap.size + 1 ∉ cs := fun hk => by have := repSfs.ex HS0.out _ hk; omega
 have Hcs := Lib.hid hcs
 clear x0 x1 x2 x3 hb hcs
 go_wp2_with fail
 refine (inI_yes _ _ _ _ h1i h2i).mono ?_
 rintro e w2 ⟨rfl, rfl⟩
 obtain ⟨x0, x1, x2, x3⟩ := HA1.out.cells
 go_wp2_with fail
 refine (HI.out _).mono ?_
 rintro e w3 ⟨d, rfl, hd, hb⟩
 obtain ⟨Ad, cd, rfl⟩ := ownI_shape hd
 clear x0 x1 x2 x3
 obtain ⟨V3, hV3⟩ : ∃ V, V = w3.alloc (.cells #[.int .i64 I.w, .int .i64 I.h, .slice Ad I.d.length cd] 58) := ⟨_, rfl⟩
 obtain ⟨b6, hb6⟩ : ∃ b, b = w3.heap.size := ⟨_, rfl⟩
 have hb3 : Below w3.heap.size w3 V3 := by rw [hV3]; exact belI_box _ _
 have hl1 := HZ1.out.lt
 have hl3 := hb.size
 have hS0 : NwS w s (.slice Av s.fs.length cv) cs b6 I (.slice Ad I.d.length cd) V3 := ⟨(HA1.out.call hb).call hb3, by rw [hV3, hb6]; exact BkAt.new _ _ _, belI_call (belI_call HB1.out hb) hb3, by have := hb3.size; omega⟩
 have hz0 : BkAt V3 (w.heap.size + 1) 38 #[.slice none 0 0, .slice none 0 0, .slice none 0 0, .int .i64 0, .int .i64 0, .int .i64 0, .slice none 0 0] := (HZ1.out.call hb).call hb3
 have hr0 : repInts.R V3 I.d [.slice Ad I.d.length cd] (Value.slice Ad I.d.length cd).ownBlock.toList := Rep.call (repInts_own hd).r hb3
 have h6 : b6 ≠ w.heap.size + 1 := by omega
 have HS := Lib.hid hS0
 have HZ3 := Lib.hid hz0
 have HR3 := Lib.hid hr0
 have HV3 := Lib.hid hV3
 have HB6 := Lib.hid hb6
 have HRp := Lib.hid (fun (g : Nat) (W : World) h => repC I Ad cd n h1 h2 g W h)
 have HCb := Lib.hid (fun (v : Value) (bs : List Nat) (W : World) h => cbI (List.replicate n I) v bs W (by
  have hIl := HIl.out
  have h3 : n = 1 ∨ n = 2 ∨ n = 3 := by omega
  rcases h3 with rfl | rfl | rfl <;> simp [sizIs, lenIs, List.replicate] <;> omega) h)
 have HCs := Lib.hid (fun (W : World) h => copiedSn s (.slice Av s.fs.length cv) cs W Hsz.out h)
 unfold RepC at HRp
 unfold CbAns at HCb
 unfold SnAns at HCs
 clear hd hb hb3 hS0 hz0 hr0 hV3 hb6 hl1 hl3
 go_upto_region 4 with fail
 rw [← HV3.out, ← HB6.out]
 refine wp_region_held_drew (S := fun W => NwS w s (.slice Av s.fs.length cv) cs b6 I (.slice Ad I.d.length cd) W) (by kernel_rfl) (HS.out.call (belI_drew _)) (fun hS => ?_)
 have hz := HZ3.out.call (belI_drew _)
 have hr := Rep.call HR3.out (belI_drew _)
 refine tcH (i := 0) (v := .agg #[.int .i64 I.w, .int .i64 I.h, .slice Ad I.d.length cd]) rfl (by intro w' hSw; (try dsimp only at hSw); (obtain ⟨⟨d0, d1, d2, d3⟩, e0, e1, e2⟩ := hSw.cells); go_simp) ?_
 refine tcH (i := 2) (v := .int .i64 (n : Int)) rfl (by intro w' hSw; (try dsimp only at hSw); (obtain ⟨⟨d0, d1, d2, d3⟩, e0, e1, e2⟩ := hSw.cells); go_simp) ?_
 refine tcH (i := 5) (v := .int .i64 (n : Int)) rfl (by intro w' hSw; (try dsimp only at hSw); (obtain ⟨⟨d0, d1, d2, d3⟩, e0, e1, e2⟩ := hSw.cells); go_simp) ?_
 refine tcH (i := 7) (v := .agg #[.int .i64 s.w, .int .i64 s.h, .int .i64 s.back, .slice Av s.fs.length cv]) rfl (by intro w' hSw; (try dsimp only at hSw); (obtain ⟨⟨d0, d1, d2, d3⟩, e0, e1, e2⟩ := hSw.cells); go_simp) ?_
 (try simp only [Act.put]); (try simp only [zPa]); (try simp only [zPb, zPc])
 refine wpAnyH_ready (rs := [1, 6]) (by kernel_rfl) (by simp) ?_
 refine (AllReadyH.cons rfl (fun K hK => ?_) (AllReadyH.cons rfl (fun K hK => ?_) AllReadyH.nil))
 ·rw [if_pos (by kernel_rfl)]
  (try simp only [zGa]); (try simp only [zGb]); (try simp only [zGc])
  refine wp_build_im 24 (.tmp 23) I (.slice Ad I.d.length cd) rfl (by first | with_reducible rfl | (go_simp; done) | rfl) rfl ?_
  intro g1 W' hb hg1 _
  have hz := hz.call hb
  have hr := Rep.call hr hb
  refine hK.out _ _ (hS.call hb) (fun hS => ?_)
  clear hK
  (try simp only [Act.put]); (try simp only [zPa]); (try simp only [zPb, zPc])
  refine wpAnyH_ready (rs := [3, 6]) (by kernel_rfl) (by simp) ?_
  refine (AllReadyH.cons rfl (fun K hK => ?_) (AllReadyH.cons rfl (fun K hK => ?_) AllReadyH.nil))
  ·rw [if_pos (by kernel_rfl)]
   (try simp only [zGa]); (try simp only [zGb]); (try simp only [zGc])
   go_simp
   with_reducible refine (HRp.out _ _ hg1).mono ?_
   rintro e W' ⟨gr, rfl, hq, hb⟩
   dsimp only
   have hz := hz.call hb
   have hr := Rep.call hr hb
   have hg1 := hg1.call hb
   refine hK.out _ _ (hS.call hb) (fun hS => ?_)
   clear hK
   (try simp only [Act.put]); (try simp only [zPa]); (try simp only [zPb, zPc])
   refine wpAnyH_ready (rs := [4, 6]) (by kernel_rfl) (by simp) ?_
   refine (AllReadyH.cons rfl (fun K hK => ?_) (AllReadyH.cons rfl (fun K hK => ?_) AllReadyH.nil))
   ·rw [if_pos (by kernel_rfl)]
    (try simp only [zGa]); (try simp only [zGb]); (try simp only [zGc])
    go_simp
    with_reducible refine (HCb.out _ _ _ (rep_ims hq hr)).mono ?_
    rintro e W' ⟨ub, bsB, rfl, hob, hb⟩
    obtain ⟨⟨Ab, cb, rfl⟩, _⟩ := form_lIs hob.r
    replace hob := hob.mono hS.le
    dsimp only
    have hz := hz.call hb
    have hr := Rep.call hr hb
    have hg1 := hg1.call hb
    have hq := own_callN hq hb
    refine hK.out _ _ (hS.call hb) (fun hS => ?_)
    clear hK
    (try simp only [Act.put]); (try simp only [zPa]); (try simp only [zPb, zPc])
    refine wpAnyH_ready (rs := [6, 8]) (by kernel_rfl) (by simp) ?_
    refine (AllReadyH.cons rfl (fun K hK => ?_) (AllReadyH.cons rfl (fun K hK => ?_) AllReadyH.nil))
    ·rw [if_pos (by kernel_rfl)]
     (try simp only [zGa]); (try simp only [zGb]); (try simp only [zGc])
     refine wp_makeV n 29 (.tmp 28) rfl (by first | with_reducible rfl | (go_simp; done) | rfl) rfl (by omega) ?_
     intro ga W' hb hga lga _
     have n12 : ∀ q ∈ bsB, q ≠ ga := fun q hq e => by have h3 := repIms.ex hob.r q hq; omega
     replace hga := own_rebase (C := w.heap.size + 1 + 1) hga (fun q hq => by have h3 := hS.le; have h4 := (own_ltB hga q hq).1; omega)
     have hz := hz.call hb
     have hr := Rep.call hr hb
     have hg1 := hg1.call hb
     have hq := own_callN hq hb
     have hob := hob.call hb
     refine hK.out _ _ (hS.call hb) (fun hS => ?_)
     clear hK
     (try simp only [Act.put]); (try simp only [zPa]); (try simp only [zPb, zPc])
     refine wpAnyH_ready (rs := [8]) (by kernel_rfl) (by simp) ?_
     refine (AllReadyH.cons rfl (fun K hK => ?_) AllReadyH.nil)
     ·rw [if_pos (by kernel_rfl)]
      (try simp only [zGa]); (try simp only [zGb]); (try simp only [zGc])
      go_simp
      with_reducible refine (HCs.out _ hS.a.r).mono ?_
      rintro e W' ⟨us, bsS, rfl, hos, hb⟩
      obtain ⟨⟨As, cq, rfl⟩, _⟩ := repSfs_form hos.r
      have n14 : ∀ q ∈ bsB, q ∉ bsS := fun q hq hq' => by have h3 := repIms.ex hob.r q hq; have h4 := hos.lo q hq'; omega
      have n24 : ga ∉ bsS := fun hq => by have h3 := (own_ltB hga ga (by simp [Value.ownBlock])).2; have h4 := hos.lo ga hq; omega
      replace hos := hos.mono hS.le
      dsimp only
      have hz := hz.call hb
      have hr := Rep.call hr hb
      have hg1 := hg1.call hb
      have hq := own_callN hq hb
      have hob := hob.call hb
      have hga := own_callN hga hb
      refine hK.out _ _ (hS.call hb) (fun hS => ?_)
      clear hK
      (try simp only [Act.put]); (try simp only [zPa]); (try simp only [zPb, zPc])
      refine tcH (i := 9) (v := .agg #[.slice Ab (List.replicate n I).length cb, .slice (some ⟨ga, 0, none⟩) n n, .slice none 0 0, .int .i64 s.w, .int .i64 s.h, .int .i64 s.back, .slice As s.fs.length cq]) rfl (by intro w' hSw; (try dsimp only at hSw); (obtain ⟨⟨d0, d1, d2, d3⟩, e0, e1, e2⟩ := hSw.cells); go_simp) ?_
      (try simp only [Act.put]); (try simp only [zPa]); (try simp only [zPb, zPc])
      refine wpAnyH_ready (rs := [10]) (by kernel_rfl) (by simp) ?_
      refine (AllReadyH.cons rfl (fun K hK => ?_) AllReadyH.nil)
      ·rw [if_pos (by kernel_rfl)]
       (try simp only [zGa]); (try simp only [zGb]); (try simp only [zGc])
       refine wp_store_bk 38 (.tmp 4) (.tmp 32) rfl (w.heap.size + 1) _ #[.slice none 0 0, .slice none 0 0, .slice none 0 0, .int .i64 0, .int .i64 0, .int .i64 0, .slice none 0 0] #[.slice Ab (List.replicate n I).length cb, .slice (some ⟨ga, 0, none⟩) n n, .slice none 0 0, .int .i64 s.w, .int .i64 s.h, .int .i64 s.back, .slice As s.fs.length cq] (by kernel_rfl) rfl (by simp [Value.oneCell']) rfl (by first | with_reducible rfl | (go_simp; done) | rfl) hz ?_
       intro W3 IB hgB
       have ob2 := hob.chg (Chg.of_grown hgB) (fun q hq e => by have h3 := hob.lo q hq; have h4 : q = w.heap.size + 1 := (by simpa using e); omega)
       have os2 := hos.chg (Chg.of_grown hgB) (fun q hq e => by have h3 := hos.lo q hq; have h4 : q = w.heap.size + 1 := (by simpa using e); omega)
       have oa2 := repInts_own (L := List.replicate n 0) (by rw [List.length_replicate, rep0]; exact own_chgN hga (Chg.of_grown hgB) (fun q hq e => by have h3 := (own_ltB hga q hq).1; have h4 : q = w.heap.size + 1 := (by simpa using e); omega))
       skip
       skip
       skip
       skip
       skip
       skip
       skip
       refine hK.out _ _ (hS.other hgB h6 Hcs.out) (fun hS => ?_)
       clear hK
       (try simp only [Act.put]); (try simp only [zPa]); (try simp only [zPb, zPc])
       refine tcH (i := 11) (v := .bool true) rfl (by intro w' hSw; (try dsimp only at hSw); (obtain ⟨⟨d0, d1, d2, d3⟩, e0, e1, e2⟩ := hSw.cells); go_simp) ?_
       refine wpAnyH_done (by kernel_rfl) ?_ _
       go_wp2_with fail
       have y0 := IB.cell 0 rfl
       have y1 := IB.cell 1 rfl
       have y2 := IB.cell 2 rfl
       have y3 := IB.cell 3 rfl
       have y4 := IB.cell 4 rfl
       have y5 := IB.cell 5 rfl
       have y6 := IB.cell 6 rfl
       exact bodyPost_ret (v := .tuple #[.agg #[.slice Ab (List.replicate n I).length cb, .slice (some ⟨ga, 0, none⟩) n n, .slice none 0 0, .int .i64 s.w, .int .i64 s.h, .int .i64 s.back, .slice As s.fs.length cq], .bool true]) (by simp [results, Try.results17, go_sem, y0, y1, y2, y3, y4, y5, y6]) rfl ⟨_, _, _, _, _, rfl, nw_own ob2 oa2 os2 n12 n14 n24 (by omega), hS.bw⟩
    ·rw [if_pos (by kernel_rfl)]
     (try simp only [zGa]); (try simp only [zGb]); (try simp only [zGc])
     go_simp
     with_reducible refine (HCs.out _ hS.a.r).mono ?_
     rintro e W' ⟨us, bsS, rfl, hos, hb⟩
     obtain ⟨⟨As, cq, rfl⟩, _⟩ := repSfs_form hos.r
     have n14 : ∀ q ∈ bsB, q ∉ bsS := fun q hq hq' => by have h3 := repIms.ex hob.r q hq; have h4 := hos.lo q hq'; omega
     replace hos := hos.mono hS.le
     dsimp only
     have hz := hz.call hb
     have hr := Rep.call hr hb
     have hg1 := hg1.call hb
     have hq := own_callN hq hb
     have hob := hob.call hb
     refine hK.out _ _ (hS.call hb) (fun hS => ?_)
     clear hK
     (try simp only [Act.put]); (try simp only [zPa]); (try simp only [zPb, zPc])
     refine wpAnyH_ready (rs := [6]) (by kernel_rfl) (by simp) ?_
     refine (AllReadyH.cons rfl (fun K hK => ?_) AllReadyH.nil)
     ·rw [if_pos (by kernel_rfl)]
      (try simp only [zGa]); (try simp only [zGb]); (try simp only [zGc])
      refine wp_makeV n 29 (.tmp 28) rfl (by first | with_reducible rfl | (go_simp; done) | rfl) rfl (by omega) ?_
      intro ga W' hb hga lga _
      have n12 : ∀ q ∈ bsB, q ≠ ga := fun q hq e => by have h3 := repIms.ex hob.r q hq; omega
      have n24 : ga ∉ bsS := fun hq => by have h3 := repSfs.ex hos.r ga hq; omega
      replace hga := own_rebase (C := w.heap.size + 1 + 1) hga (fun q hq => by have h3 := hS.le; have h4 := (own_ltB hga q hq).1; omega)
      have hz := hz.call hb
      have hr := Rep.call hr hb
      have hg1 := hg1.call hb
      have hq := own_callN hq hb
      have hob := hob.call hb
      have hos := hos.call hb
      refine hK.out _ _ (hS.call hb) (fun hS => ?_)
      clear hK
      (try simp only [Act.put]); (try simp only [zPa]); (try simp only [zPb, zPc])
      refine tcH (i := 9) (v := .agg #[.slice Ab (List.replicate n I).length cb, .slice (some ⟨ga, 0, none⟩) n n, .slice none 0 0, .int .i64 s.w, .int .i64 s.h, .int .i64 s.back, .slice As s.fs.length cq]) rfl (by intro w' hSw; (try dsimp only at hSw); (obtain ⟨⟨d0, d1, d2, d3⟩, e0, e1, e2⟩ := hSw.cells); go_simp) ?_
      (try simp only [Act.put]); (try simp only [zPa]); (try simp only [zPb, zPc])
      refine wpAnyH_ready (rs := [10]) (by kernel_rfl) (by simp) ?_
      refine (AllReadyH.cons rfl (fun K hK => ?_) AllReadyH.nil)
      ·rw [if_pos (by kernel_rfl)]
       (try simp only [zGa]); (try simp only [zGb]); (try simp only [zGc])
       refine wp_store_bk 38 (.tmp 4) (.tmp 32) rfl (w.heap.size + 1) _ #[.slice none 0 0, .slice none 0 0, .slice none 0 0, .int .i64 0, .int .i64 0, .int .i64 0, .slice none 0 0] #[.slice Ab (List.replicate n I).length cb, .slice (some ⟨ga, 0, none⟩) n n, .slice none 0 0, .int .i64 s.w, .int .i64 s.h, .int .i64 s.back, .slice As s.fs.length cq] (by kernel_rfl) rfl (by simp [Value.oneCell']) rfl (by first | with_reducible rfl | (go_simp; done) | rfl) hz ?_
       intro W3 IB hgB
       have ob2 := hob.chg (Chg.of_grown hgB) (fun q hq e => by have h3 := hob.lo q hq; have h4 : q = w.heap.size + 1 := (by simpa using e); omega)
       have os2 := hos.chg (Chg.of_grown hgB) (fun q hq e => by have h3 := hos.lo q hq; have h4 : q = w.heap.size + 1 := (by simpa using e); omega)
       have oa2 := repInts_own (L := List.replicate n 0) (by rw [List.length_replicate, rep0]; exact own_chgN hga (Chg.of_grown hgB) (fun q hq e => by have h3 := (own_ltB hga q hq).1; have h4 : q = w.heap.size + 1 := (by simpa using e); omega))
       skip
       skip
       skip
       skip
       skip
       skip
       skip
       refine hK.out _ _ (hS.other hgB h6 Hcs.out) (fun hS => ?_)
       clear hK
       (try simp only [Act.put]); (try simp only [zPa]); (try simp only [zPb, zPc])
       refine tcH (i := 11) (v := .bool true) rfl (by intro w' hSw; (try dsimp only at hSw); (obtain ⟨⟨d0, d1, d2, d3⟩, e0, e1, e2⟩ := hSw.cells); go_simp) ?_
       refine wpAnyH_done (by kernel_rfl) ?_ _
       go_wp2_with fail
       have y0 := IB.cell 0 rfl
       have y1 := IB.cell 1 rfl
       have y2 := IB.cell 2 rfl
       have y3 := IB.cell 3 rfl
       have y4 := IB.cell 4 rfl
       have y5 := IB.cell 5 rfl
       have y6 := IB.cell 6 rfl
       exact bodyPost_ret (v := .tuple #[.agg #[.slice Ab (List.replicate n I).length cb, .slice (some ⟨ga, 0, none⟩) n n, .slice none 0 0, .int .i64 s.w, .int .i64 s.h, .int .i64 s.back, .slice As s.fs.length cq], .bool true]) (by simp [results, Try.results17, go_sem, y0, y1, y2, y3, y4, y5, y6]) rfl ⟨_, _, _, _, _, rfl, nw_own ob2 oa2 os2 n12 n14 n24 (by omega), hS.bw⟩
   ·rw [if_pos (by kernel_rfl)]
    (try simp only [zGa]); (try simp only [zGb]); (try simp only [zGc])
    refine wp_makeV n 29 (.tmp 28) rfl (by first | with_reducible rfl | (go_simp; done) | rfl) rfl (by omega) ?_
    intro ga W' hb hga lga _
    replace hga := own_rebase (C := w.heap.size + 1 + 1) hga (fun q hq => by have h3 := hS.le; have h4 := (own_ltB hga q hq).1; omega)
    have hz := hz.call hb
    have hr := Rep.call hr hb
    have hg1 := hg1.call hb
    have hq := own_callN hq hb
    refine hK.out _ _ (hS.call hb) (fun hS => ?_)
    clear hK
    (try simp only [Act.put]); (try simp only [zPa]); (try simp only [zPb, zPc])
    refine wpAnyH_ready (rs := [4]) (by kernel_rfl) (by simp) ?_
    refine (AllReadyH.cons rfl (fun K hK => ?_) AllReadyH.nil)
    ·rw [if_pos (by kernel_rfl)]
     (try simp only [zGa]); (try simp only [zGb]); (try simp only [zGc])
     go_simp
     with_reducible refine (HCb.out _ _ _ (rep_ims hq hr)).mono ?_
     rintro e W' ⟨ub, bsB, rfl, hob, hb⟩
     obtain ⟨⟨Ab, cb, rfl⟩, _⟩ := form_lIs hob.r
     have n12 : ∀ q ∈ bsB, q ≠ ga := fun q hq e => by have h3 := hob.lo q hq; have h4 := (own_ltB hga ga (by simp [Value.ownBlock])).2; omega
     replace hob := hob.mono hS.le
     dsimp only
     have hz := hz.call hb
     have hr := Rep.call hr hb
     have hg1 := hg1.call hb
     have hq := own_callN hq hb
     have hga := own_callN hga hb
     refine hK.out _ _ (hS.call hb) (fun hS => ?_)
     clear hK
     (try simp only [Act.put]); (try simp only [zPa]); (try simp only [zPb, zPc])
     refine wpAnyH_ready (rs := [8]) (by kernel_rfl) (by simp) ?_
     refine (AllReadyH.cons rfl (fun K hK => ?_) AllReadyH.nil)
     ·rw [if_pos (by kernel_rfl)]
      (try simp only [zGa]); (try simp only [zGb]); (try simp only [zGc])
      go_simp
      with_reducible refine (HCs.out _ hS.a.r).mono ?_
      rintro e W' ⟨us, bsS, rfl, hos, hb⟩
      obtain ⟨⟨As, cq, rfl⟩, _⟩ := repSfs_form hos.r
      have n14 : ∀ q ∈ bsB, q ∉ bsS := fun q hq hq' => by have h3 := repIms.ex hob.r q hq; have h4 := hos.lo q hq'; omega
      have n24 : ga ∉ bsS := fun hq => by have h3 := (own_ltB hga ga (by simp [Value.ownBlock])).2; have h4 := hos.lo ga hq; omega
      replace hos := hos.mono hS.le
      dsimp only
      have hz := hz.call hb
      have hr := Rep.call hr hb
      have hg1 := hg1.call hb
      have hq := own_callN hq hb
      have hga := own_callN hga hb
      have hob := hob.call hb
      refine hK.out _ _ (hS.call hb) (fun hS => ?_)
      clear hK
      (try simp only [Act.put]); (try simp only [zPa]); (try simp only [zPb, zPc])
      refine tcH (i := 9) (v := .agg #[.slice Ab (List.replicate n I).length cb, .slice (some ⟨ga, 0, none⟩) n n, .slice none 0 0, .int .i64 s.w, .int .i64 s.h, .int .i64 s.back, .slice As s.fs.length cq]) rfl (by intro w' hSw; (try dsimp only at hSw); (obtain ⟨⟨d0, d1, d2, d3⟩, e0, e1, e2⟩ := hSw.cells); go_simp) ?_
      (try simp only [Act.put]); (try simp only [zPa]); (try simp only [zPb, zPc])
      refine wpAnyH_ready (rs := [10]) (by kernel_rfl) (by simp) ?_
      refine (AllReadyH.cons rfl (fun K hK => ?_) AllReadyH.nil)
      ·rw [if_pos (by kernel_rfl)]
       (try simp only [zGa]); (try simp only [zGb]); (try simp only [zGc])
       refine wp_store_bk 38 (.tmp 4) (.tmp 32) rfl (w.heap.size + 1) _ #[.slice none 0 0, .slice none 0 0, .slice none 0 0, .int .i64 0, .int .i64 0, .int .i64 0, .slice none 0 0] #[.slice Ab (List.replicate n I).length cb, .slice (some ⟨ga, 0, none⟩) n n, .slice none 0 0, .int .i64 s.w, .int .i64 s.h, .int .i64 s.back, .slice As s.fs.length cq] (by kernel_rfl) rfl (by simp [Value.oneCell']) rfl (by first | with_reducible rfl | (go_simp; done) | rfl) hz ?_
       intro W3 IB hgB
       have ob2 := hob.chg (Chg.of_grown hgB) (fun q hq e => by have h3 := hob.lo q hq; have h4 : q = w.heap.size + 1 := (by simpa using e); omega)
       have os2 := hos.chg (Chg.of_grown hgB) (fun q hq e => by have h3 := hos.lo q hq; have h4 : q = w.heap.size + 1 := (by simpa using e); omega)
       have oa2 := repInts_own (L := List.replicate n 0) (by rw [List.length_replicate, rep0]; exact own_chgN hga (Chg.of_grown hgB) (fun q hq e => by have h3 := (own_ltB hga q hq).1; have h4 : q = w.heap.size + 1 := (by simpa using e); omega))
       skip
       skip
       skip
       skip
       skip
       skip
       skip
       refine hK.out _ _ (hS.other hgB h6 Hcs.out) (fun hS => ?_)
       clear hK
       (try simp only [Act.put]); (try simp only [zPa]); (try simp only [zPb, zPc])
       refine tcH (i := 11) (v := .bool true) rfl (by intro w' hSw; (try dsimp only at hSw); (obtain ⟨⟨d0, d1, d2, d3⟩, e0, e1, e2⟩ := hSw.cells); go_simp) ?_
       refine wpAnyH_done (by kernel_rfl) ?_ _
       go_wp2_with fail
       have y0 := IB.cell 0 rfl
       have y1 := IB.cell 1 rfl
       have y2 := IB.cell 2 rfl
       have y3 := IB.cell 3 rfl
       have y4 := IB.cell 4 rfl
       have y5 := IB.cell 5 rfl
       have y6 := IB.cell 6 rfl
       exact bodyPost_ret (v := .tuple #[.agg #[.slice Ab (List.replicate n I).length cb, .slice (some ⟨ga, 0, none⟩) n n, .slice none 0 0, .int .i64 s.w, .int .i64 s.h, .int .i64 s.back, .slice As s.fs.length cq], .bool true]) (by simp [results, Try.results17, go_sem, y0, y1, y2, y3, y4, y5, y6]) rfl ⟨_, _, _, _, _, rfl, nw_own ob2 oa2 os2 n12 n14 n24 (by omega), hS.bw⟩
  ·rw [if_pos (by kernel_rfl)]
   (try simp only [zGa]); (try simp only [zGb]); (try simp only [zGc])
   refine wp_makeV n 29 (.tmp 28) rfl (by first | with_reducible rfl | (go_simp; done) | rfl) rfl (by omega) ?_
   intro ga W' hb hga lga _
   replace hga := own_rebase (C := w.heap.size + 1 + 1) hga (fun q hq => by have h3 := hS.le; have h4 := (own_ltB hga q hq).1; omega)
   have hz := hz.call hb
   have hr := Rep.call hr hb
   have hg1 := hg1.call hb
   refine hK.out _ _ (hS.call hb) (fun hS => ?_)
   clear hK
   (try simp only [Act.put]); (try simp only [zPa]); (try simp only [zPb, zPc])
   refine wpAnyH_ready (rs := [3]) (by kernel_rfl) (by simp) ?_
   refine (AllReadyH.cons rfl (fun K hK => ?_) AllReadyH.nil)
   ·rw [if_pos (by kernel_rfl)]
    (try simp only [zGa]); (try simp only [zGb]); (try simp only [zGc])
    go_simp
    with_reducible refine (HRp.out _ _ hg1).mono ?_
    rintro e W' ⟨gr, rfl, hq, hb⟩
    dsimp only
    have hz := hz.call hb
    have hr := Rep.call hr hb
    have hg1 := hg1.call hb
    have hga := own_callN hga hb
    refine hK.out _ _ (hS.call hb) (fun hS => ?_)
    clear hK
    (try simp only [Act.put]); (try simp only [zPa]); (try simp only [zPb, zPc])
    refine wpAnyH_ready (rs := [4]) (by kernel_rfl) (by simp) ?_
    refine (AllReadyH.cons rfl (fun K hK => ?_) AllReadyH.nil)
    ·rw [if_pos (by kernel_rfl)]
     (try simp only [zGa]); (try simp only [zGb]); (try simp only [zGc])
     go_simp
     with_reducible refine (HCb.out _ _ _ (rep_ims hq hr)).mono ?_
     rintro e W' ⟨ub, bsB, rfl, hob, hb⟩
     obtain ⟨⟨Ab, cb, rfl⟩, _⟩ := form_lIs hob.r
     have n12 : ∀ q ∈ bsB, q ≠ ga := fun q hq e => by have h3 := hob.lo q hq; have h4 := (own_ltB hga ga (by simp [Value.ownBlock])).2; omega
     replace hob := hob.mono hS.le
     dsimp only
     have hz := hz.call hb
     have hr := Rep.call hr hb
     have hg1 := hg1.call hb
     have hga := own_callN hga hb
     have hq := own_callN hq hb
     refine hK.out _ _ (hS.call hb) (fun hS => ?_)
     clear hK
     (try simp only [Act.put]); (try simp only [zPa]); (try simp only [zPb, zPc])
     refine wpAnyH_ready (rs := [8]) (by kernel_rfl) (by simp) ?_
     refine (AllReadyH.cons rfl (fun K hK => ?_) AllReadyH.nil)
     ·rw [if_pos (by kernel_rfl)]
      (try simp only [zGa]); (try simp only [zGb]); (try simp only [zGc])
      go_simp
      with_reducible refine (HCs.out _ hS.a.r).mono ?_
      rintro e W' ⟨us, bsS, rfl, hos, hb⟩
      obtain ⟨⟨As, cq, rfl⟩, _⟩ := repSfs_form hos.r
      have n14 : ∀ q ∈ bsB, q ∉ bsS := fun q hq hq' => by have h3 := repIms.ex hob.r q hq; have h4 := hos.lo q hq'; omega
      have n24 : ga ∉ bsS := fun hq => by have h3 := (own_ltB hga ga (by simp [Value.ownBlock])).2; have h4 := hos.lo ga hq; omega
      replace hos := hos.mono hS.le
      dsimp only
      have hz := hz.call hb
      have hr := Rep.call hr hb
      have hg1 := hg1.call hb
      have hga := own_callN hga hb
      have hq := own_callN hq hb
      have hob := hob.call hb
      refine hK.out _ _ (hS.call hb) (fun hS => ?_)
      clear hK
      (try simp only [Act.put]); (try simp only [zPa]); (try simp only [zPb, zPc])
      refine tcH (i := 9) (v := .agg #[.slice Ab (List.replicate n I).length cb, .slice (some ⟨ga, 0, none⟩) n n, .slice none 0 0, .int .i64 s.w, .int .i64 s.h, .int .i64 s.back, .slice As s.fs.length cq]) rfl (by intro w' hSw; (try dsimp only at hSw); (obtain ⟨⟨d0, d1, d2, d3⟩, e0, e1, e2⟩ := hSw.cells); go_simp) ?_
      (try simp only [Act.put]); (try simp only [zPa]); (try simp only [zPb, zPc])
      refine wpAnyH_ready (rs := [10]) (by kernel_rfl) (by simp) ?_
      refine (AllReadyH.cons rfl (fun K hK => ?_) AllReadyH.nil)
      ·rw [if_pos (by kernel_rfl)]
       (try simp only [zGa]); (try simp only [zGb]); (try simp only [zGc])
       refine wp_store_bk 38 (.tmp 4) (.tmp 32) rfl (w.heap.size + 1) _ #[.slice none 0 0, .slice none 0 0, .slice none 0 0, .int .i64 0, .int .i64 0, .int .i64 0, .slice none 0 0] #[.slice Ab (List.replicate n I).length cb, .slice (some ⟨ga, 0, none⟩) n n, .slice none 0 0, .int .i64 s.w, .int .i64 s.h, .int .i64 s.back, .slice As s.fs.length cq] (by kernel_rfl) rfl (by simp [Value.oneCell']) rfl (by first | with_reducible rfl | (go_simp; done) | rfl) hz ?_
       intro W3 IB hgB
       have ob2 := hob.chg (Chg.of_grown hgB) (fun q hq e => by have h3 := hob.lo q hq; have h4 : q = w.heap.size + 1 := (by simpa using e); omega)
       have os2 := hos.chg (Chg.of_grown hgB) (fun q hq e => by have h3 := hos.lo q hq; have h4 : q = w.heap.size + 1 := (by simpa using e); omega)
       have oa2 := repInts_own (L := List.replicate n 0) (by rw [List.length_replicate, rep0]; exact own_chgN hga (Chg.of_grown hgB) (fun q hq e => by have h3 := (own_ltB hga q hq).1; have h4 : q = w.heap.size + 1 := (by simpa using e); omega))
       skip
       skip
       skip
       skip
       skip
       skip
       skip
       refine hK.out _ _ (hS.other hgB h6 Hcs.out) (fun hS => ?_)
       clear hK
       (try simp only [Act.put]); (try simp only [zPa]); (try simp only [zPb, zPc])
       refine tcH (i := 11) (v := .bool true) rfl (by intro w' hSw; (try dsimp only at hSw); (obtain ⟨⟨d0, d1, d2, d3⟩, e0, e1, e2⟩ := hSw.cells); go_simp) ?_
       refine wpAnyH_done (by kernel_rfl) ?_ _
       go_wp2_with fail
       have y0 := IB.cell 0 rfl
       have y1 := IB.cell 1 rfl
       have y2 := IB.cell 2 rfl
       have y3 := IB.cell 3 rfl
       have y4 := IB.cell 4 rfl
       have y5 := IB.cell 5 rfl
       have y6 := IB.cell 6 rfl
       exact bodyPost_ret (v := .tuple #[.agg #[.slice Ab (List.replicate n I).length cb, .slice (some ⟨ga, 0, none⟩) n n, .slice none 0 0, .int .i64 s.w, .int .i64 s.h, .int .i64 s.back, .slice As s.fs.length cq], .bool true]) (by simp [results, Try.results17, go_sem, y0, y1, y2, y3, y4, y5, y6]) rfl ⟨_, _, _, _, _, rfl, nw_own ob2 oa2 os2 n12 n14 n24 (by omega), hS.bw⟩
 ·rw [if_pos (by kernel_rfl)]
  (try simp only [zGa]); (try simp only [zGb]); (try simp only [zGc])
  refine wp_makeV n 29 (.tmp 28) rfl (by first | with_reducible rfl | (go_simp; done) | rfl) rfl (by omega) ?_
  intro ga W' hb hga lga _
  replace hga := own_rebase (C := w.heap.size + 1 + 1) hga (fun q hq => by have h3 := hS.le; have h4 := (own_ltB hga q hq).1; omega)
  have hz := hz.call hb
  have hr := Rep.call hr hb
  refine hK.out _ _ (hS.call hb) (fun hS => ?_)
  clear hK
  (try simp only [Act.put]); (try simp only [zPa]); (try simp only [zPb, zPc])
  refine wpAnyH_ready (rs := [1]) (by kernel_rfl) (by simp) ?_
  refine (AllReadyH.cons rfl (fun K hK => ?_) AllReadyH.nil)
  ·rw [if_pos (by kernel_rfl)]
   (try simp only [zGa]); (try simp only [zGb]); (try simp only [zGc])
   refine wp_build_im 24 (.tmp 23) I (.slice Ad I.d.length cd) rfl (by first | with_reducible rfl | (go_simp; done) | rfl) rfl ?_
   intro g1 W' hb hg1 _
   have hz := hz.call hb
   have hr := Rep.call hr hb
   have hga := own_callN hga hb
   refine hK.out _ _ (hS.call hb) (fun hS => ?_)
   clear hK
   (try simp only [Act.put]); (try simp only [zPa]); (try simp only [zPb, zPc])
   refine wpAnyH_ready (rs := [3]) (by kernel_rfl) (by simp) ?_
   refine (AllReadyH.cons rfl (fun K hK => ?_) AllReadyH.nil)
   ·rw [if_pos (by kernel_rfl)]
    (try simp only [zGa]); (try simp only [zGb]); (try simp only [zGc])
    go_simp
    with_reducible refine (HRp.out _ _ hg1).mono ?_
    rintro e W' ⟨gr, rfl, hq, hb⟩
    dsimp only
    have hz := hz.call hb
    have hr := Rep.call hr hb
    have hga := own_callN hga hb
    have hg1 := hg1.call hb
    refine hK.out _ _ (hS.call hb) (fun hS => ?_)
    clear hK
    (try simp only [Act.put]); (try simp only [zPa]); (try simp only [zPb, zPc])
    refine wpAnyH_ready (rs := [4]) (by kernel_rfl) (by simp) ?_
    refine (AllReadyH.cons rfl (fun K hK => ?_) AllReadyH.nil)
    ·rw [if_pos (by kernel_rfl)]
     (try simp only [zGa]); (try simp only [zGb]); (try simp only [zGc])
     go_simp
     with_reducible refine (HCb.out _ _ _ (rep_ims hq hr)).mono ?_
     rintro e W' ⟨ub, bsB, rfl, hob, hb⟩
     obtain ⟨⟨Ab, cb, rfl⟩, _⟩ := form_lIs hob.r
     have n12 : ∀ q ∈ bsB, q ≠ ga := fun q hq e => by have h3 := hob.lo q hq; have h4 := (own_ltB hga ga (by simp [Value.ownBlock])).2; omega
     replace hob := hob.mono hS.le
     dsimp only
     have hz := hz.call hb
     have hr := Rep.call hr hb
     have hga := own_callN hga hb
     have hg1 := hg1.call hb
     have hq := own_callN hq hb
     refine hK.out _ _ (hS.call hb) (fun hS => ?_)
     clear hK
     (try simp only [Act.put]); (try simp only [zPa]); (try simp only [zPb, zPc])
     refine wpAnyH_ready (rs := [8]) (by kernel_rfl) (by simp) ?_
     refine (AllReadyH.cons rfl (fun K hK => ?_) AllReadyH.nil)
     ·rw [if_pos (by kernel_rfl)]
      (try simp only [zGa]); (try simp only [zGb]); (try simp only [zGc])
      go_simp
      with_reducible refine (HCs.out _ hS.a.r).mono ?_
      rintro e W' ⟨us, bsS, rfl, hos, hb⟩
      obtain ⟨⟨As, cq, rfl⟩, _⟩ := repSfs_form hos.r
      have n14 : ∀ q ∈ bsB, q ∉ bsS := fun q hq hq' => by have h3 := repIms.ex hob.r q hq; have h4 := hos.lo q hq'; omega
      have n24 : ga ∉ bsS := fun hq => by have h3 := (own_ltB hga ga (by simp [Value.ownBlock])).2; have h4 := hos.lo ga hq; omega
      replace hos := hos.mono hS.le
      dsimp only
      have hz := hz.call hb
      have hr := Rep.call hr hb
      have hga := own_callN hga hb
      have hg1 := hg1.call hb
      have hq := own_callN hq hb
      have hob := hob.call hb
      refine hK.out _ _ (hS.call hb) (fun hS => ?_)
      clear hK
      (try simp only [Act.put]); (try simp only [zPa]); (try simp only [zPb, zPc])
      refine tcH (i := 9) (v := .agg #[.slice Ab (List.replicate n I).length cb, .slice (some ⟨ga, 0, none⟩) n n, .slice none 0 0, .int .i64 s.w, .int .i64 s.h, .int .i64 s.back, .slice As s.fs.length cq]) rfl (by intro w' hSw; (try dsimp only at hSw); (obtain ⟨⟨d0, d1, d2, d3⟩, e0, e1, e2⟩ := hSw.cells); go_simp) ?_
      (try simp only [Act.put]); (try simp only [zPa]); (try simp only [zPb, zPc])
      refine wpAnyH_ready (rs := [10]) (by kernel_rfl) (by simp) ?_
      refine (AllReadyH.cons rfl (fun K hK => ?_) AllReadyH.nil)
      ·rw [if_pos (by kernel_rfl)]
       (try simp only [zGa]); (try simp only [zGb]); (try simp only [zGc])
       refine wp_store_bk 38 (.tmp 4) (.tmp 32) rfl (w.heap.size + 1) _ #[.slice none 0 0, .slice none 0 0, .slice none 0 0, .int .i64 0, .int .i64 0, .int .i64 0, .slice none 0 0] #[.slice Ab (List.replicate n I).length cb, .slice (some ⟨ga, 0, none⟩) n n, .slice none 0 0, .int .i64 s.w, .int .i64 s.h, .int .i64 s.back, .slice As s.fs.length cq] (by kernel_rfl) rfl (by simp [Value.oneCell']) rfl (by first | with_reducible rfl | (go_simp; done) | rfl) hz ?_
       intro W3 IB hgB
       have ob2 := hob.chg (Chg.of_grown hgB) (fun q hq e => by have h3 := hob.lo q hq; have h4 : q = w.heap.size + 1 := (by simpa using e); omega)
       have os2 := hos.chg (Chg.of_grown hgB) (fun q hq e => by have h3 := hos.lo q hq; have h4 : q = w.heap.size + 1 := (by simpa using e); omega)
       have oa2 := repInts_own (L := List.replicate n 0) (by rw [List.length_replicate, rep0]; exact own_chgN hga (Chg.of_grown hgB) (fun q hq e => by have h3 := (own_ltB hga q hq).1; have h4 : q = w.heap.size + 1 := (by simpa using e); omega))
       skip
       skip
       skip
       skip
       skip
       skip
       skip
       refine hK.out _ _ (hS.other hgB h6 Hcs.out) (fun hS => ?_)
       clear hK
       (try simp only [Act.put]); (try simp only [zPa]); (try simp only [zPb, zPc])
       refine tcH (i := 11) (v := .bool true) rfl (by intro w' hSw; (try dsimp only at hSw); (obtain ⟨⟨d0, d1, d2, d3⟩, e0, e1, e2⟩ := hSw.cells); go_simp) ?_
       refine wpAnyH_done (by kernel_rfl) ?_ _
       go_wp2_with fail
       have y0 := IB.cell 0 rfl
       have y1 := IB.cell 1 rfl
       have y2 := IB.cell 2 rfl
       have y3 := IB.cell 3 rfl
       have y4 := IB.cell 4 rfl
       have y5 := IB.cell 5 rfl
       have y6 := IB.cell 6 rfl
       exact bodyPost_ret (v := .tuple #[.agg #[.slice Ab (List.replicate n I).length cb, .slice (some ⟨ga, 0, none⟩) n n, .slice none 0 0, .int .i64 s.w, .int .i64 s.h, .int .i64 s.back, .slice As s.fs.length cq], .bool true]) (by simp [results, Try.results17, go_sem, y0, y1, y2, y3, y4, y5, y6]) rfl ⟨_, _, _, _, _, rfl, nw_own ob2 oa2 os2 n12 n14 n24 (by omega), hS.bw⟩
end Go.Proofs.Ytnndifemkichmaa
