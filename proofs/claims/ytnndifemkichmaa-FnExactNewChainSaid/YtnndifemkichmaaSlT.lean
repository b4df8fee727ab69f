/- The laws' copies of lists of surfaces and of edits, and of scenes. No statement is proved here. -/
import Derived.Test.YtnndifemkichmaaMA
import Derived.Test.YtnndifemkichmaaLk
import Derived.Test.YtnndifemkichmaaMB
import Derived.Test.YtnndifemkichmaaSnL
import Derived.Test.YtnndifemkichmaaSlE
import Derived.Test.YtnndifemkichmaaProg
import Derived.WalkKit
import Derived.ProofKit
import Derived.OpenShut
import Derived.WalkLawsBesides
import Derived.WalkSpells
import Derived.ShutString
import Derived.ChangeOld
import Derived.Below
import Derived.Lib.Hide
import Derived.BigQuiet
import Derived.Deep.QuietTactic
import Derived.Maps.AppendAt
import Derived.Deep.OwnRows
import Derived.Handy
import Derived.Deep.Draws
import Derived.OwnWalk
import Derived.Deep.AppendLies
import Derived.Deep.LoopGhost
import Derived.Deep.Onto
import Derived.Deep.MidRow
import Derived.Deep.WholeRow
import Derived.Laws.BitsAllLaws
import Derived.Lib.QuoteBits
import Derived.Deep.RegionHeld3
import Derived.Deep.DeepCutAuto
import Derived.Test.YtnndifemkichmaaShelf
import Derived.Laws.CopyOwn
import Derived.Deep.RegionLaw
import Derived.Great.BuildSlice
namespace Go.Proofs.Ytnndifemkichmaa
open Go.RowKit
theorem made_rows {zs : List Value} {n : Nat} (hs : 0 < zs.length) : (madeCells zs.toArray (n * zs.length)).toList = (List.replicate n zs).flatten := by
 apply List.ext_getElem?
 intro i
 by_cases hi : i < n * zs.length
 ·have hk : i / zs.length < n := Nat.div_lt_of_lt_mul (by rwa [Nat.mul_comm])
  have hj : i % zs.length < zs.length := Nat.mod_lt _ hs
  have h1 := flat_at (xs := List.replicate n zs) (s := zs.length) (fun x hx => by rw [List.eq_of_mem_replicate hx]) (i / zs.length) (i % zs.length) (x := zs) (by rw [List.getElem?_replicate, if_pos hk]) hj
  rw [show i / zs.length * zs.length + i % zs.length = i by rw [Nat.mul_comm]; exact Nat.div_add_mod _ _] at h1
  rw [h1]
  simp only [madeCells, Array.toList_map, Array.toList_range, List.getElem?_map]
  rw [List.getElem?_range hi]
  simp [hj]
 ·have hl : (List.replicate n zs).flatten.length = n * zs.length := by rw [flat_len (s := zs.length) fun x hx => by rw [List.eq_of_mem_replicate hx], List.length_replicate]
  rw [List.getElem?_eq_none (by rw [Array.length_toList, size_madeCells]; omega), List.getElem?_eq_none (by omega)]
theorem rows_repl {α : Type} {E : Rep α} {w : World} {a : α} {x : List Value} (h : E.R w a x []) : ∀ n, rowsR E w (List.replicate n a) (List.replicate n x) (List.replicate n [])
 | 0 => trivial
 | n + 1 => ⟨h, rows_repl h n⟩
theorem flat_set_nodup {bss : List (List Nat)} {k : Nat} {d e : List Nat} (hn : bss.flatten.Nodup) (hk : bss[k]? = some d) (he : e.Nodup) (hd : ∀ b ∈ e, b ∉ bss.flatten) : (bss.set k e).flatten.Nodup ∧ ∀ b, b ∈ (bss.set k e).flatten → b ∈ bss.flatten ∨ b ∈ e := by
  induction bss generalizing k with
  | nil => simp at hk
  | cons c t ih =>
    rw [List.flatten_cons, List.nodup_append] at hn
    obtain ⟨h1, h2, h3⟩ := hn
    cases k with
    | zero =>
      refine ⟨?_, fun b hb => ?_⟩
      · show (e ++ t.flatten).Nodup
        rw [List.nodup_append]
        exact ⟨he, h2, fun x hx y hy e => hd x hx (by rw [List.flatten_cons, List.mem_append, e]; exact .inr hy)⟩
      · have hb : b ∈ e ++ t.flatten := hb
        rw [List.mem_append] at hb
        rcases hb with hb | hb
        · exact .inr hb
        · exact .inl (by rw [List.flatten_cons, List.mem_append]; exact .inr hb)
    | succ k =>
      obtain ⟨i1, i2⟩ := ih h2 (by simpa using hk) fun b hb hm => hd b hb (by rw [List.flatten_cons, List.mem_append]; exact .inr hm)
      refine ⟨?_, fun b hb => ?_⟩
      · show (c ++ (t.set k e).flatten).Nodup
        rw [List.nodup_append]
        refine ⟨h1, i1, fun x hx y hy e' => ?_⟩
        subst e'
        rcases i2 x hy with h | h
        · exact h3 x hx x h rfl
        · exact hd x h (by rw [List.flatten_cons, List.mem_append]; exact .inl hx)
      · have hb : b ∈ c ++ (t.set k e).flatten := hb
        rw [List.mem_append] at hb
        rw [List.flatten_cons, List.mem_append]
        rcases hb with hb | hb
        · exact .inl (.inl hb)
        · rcases i2 b hb with h | h
          · exact .inl (.inr h)
          · exact .inr h
theorem infosf : (Try.prog.info? 80).map (fun i => (i.zero, i.size)) = some (some (.agg #[.int .i64 0, .int .i64 0, .int .i64 0, .int .i64 0, .int .i64 0, .int .i64 0, .int .i64 0, .bool false, .int .i64 0, .int .i64 0, .slice none 0 0]), 11) := by kernel_rfl
theorem make_sf (n : Nat) (hn : n ≤ 2097152) (W : World) : (Instr.makeSlice 34 (.int .i64 (n : Int)) (.int .i64 (n : Int))).run Try.prog W =
  .ok (.slice (some ⟨W.heap.size, 0, none⟩) n n) (W.alloc (.cells (madeCells #[.int .i64 0, .int .i64 0, .int .i64 0, .int .i64 0, .int .i64 0, .int .i64 0, .int .i64 0, .bool false, .int .i64 0, .int .i64 0, .slice none 0 0] (n * 11)) 80)) := by
 obtain ⟨i0, hi, hz0, hz1⟩ : ∃ i0, Try.prog.info? 80 = some i0 ∧ i0.zero = some (.agg #[.int .i64 0, .int .i64 0, .int .i64 0, .int .i64 0, .int .i64 0, .int .i64 0, .int .i64 0, .bool false, .int .i64 0, .int .i64 0, .slice none 0 0]) ∧ i0.size = 11 := by
  have h := infosf
  cases e : Try.prog.info? 80 with
  | none => rw [e] at h; simp at h
  | some i => rw [e] at h; simp at h; exact ⟨i, rfl, h.1, h.2⟩
 have hby : i0.bytes ≤ 1000 := by
  have h : (Try.prog.info? 80).map (fun i => decide (i.bytes ≤ 1000)) = some true := by kernel_rfl
  rw [hi] at h
  simpa using h
 have hbn : n * i0.bytes ≤ 2097152 * 1000 := Nat.mul_le_mul hn hby
 have hbn2 : i0.bytes * n ≤ 2097152 * 1000 := by rw [Nat.mul_comm]; exact hbn
 have h := run_make (P := Try.prog) W 34 80 i0 _ Try.underlying34 hi hz0 .i64 .i64 n n (by omega) (by omega) (by omega) (by omega)
 rw [hz1] at h
 simpa [Value.cells] using h
theorem slu_made_sf (W : World) (n : Nat) (hn : n ≤ 2097152) : SlU repSf 80 11 (W.alloc (.cells (madeCells #[.int .i64 0, .int .i64 0, .int .i64 0, .int .i64 0, .int .i64 0, .int .i64 0, .int .i64 0, .bool false, .int .i64 0, .int .i64 0, .slice none 0 0] (n * 11)) 80)) (List.replicate n sfZero) W.heap.size n n (List.replicate n [.int .i64 0, .int .i64 0, .int .i64 0, .int .i64 0, .int .i64 0, .int .i64 0, .int .i64 0, .bool false, .int .i64 0, .int .i64 0, .slice none 0 0]) (List.replicate n []) := by
 refine ⟨rows_repl (show repSf.R _ sfZero [.int .i64 0, .int .i64 0, .int .i64 0, .int .i64 0, .int .i64 0, .int .i64 0, .int .i64 0, .bool false, .int .i64 0, .int .i64 0, .slice none 0 0] [] from ⟨.slice none 0 0, rfl, .slice none 0 0, rfl, ⟨rfl, .inl ⟨rfl, rfl⟩⟩, rfl⟩) n, fun x hx => by rw [List.eq_of_mem_replicate hx]; rfl, ?_, by simp⟩
 refine ⟨by rw [flat_len (s := 11) fun x hx => by rw [List.eq_of_mem_replicate hx]; rfl, List.length_replicate], .inr ⟨W.heap.size, n, _, rfl, Nat.zero_le _, heap_alloc_new W _, Nat.le_refl _, by unfold maxLen; omega, size_madeCells _ _, ?_⟩⟩
 have h := made_rows (zs := [.int .i64 0, .int .i64 0, .int .i64 0, .int .i64 0, .int .i64 0, .int .i64 0, .int .i64 0, .bool false, .int .i64 0, .int .i64 0, .slice none 0 0]) (n := n) (by simp)
 rw [List.take_of_length_le (by rw [Array.length_toList, size_madeCells]; exact Nat.le_refl _)]
 exact h
def ToFs (L : List Sf) (w : World) (e : Ending) (w' : World) : Prop := ∃ u bs, e = .returned u ∧ repSfs.Own w.heap.size w' L [u] bs ∧ Below w.heap.size w w'
set_option maxHeartbeats 4000000 in
set_option maxRecDepth 10000 in
theorem toFs (L : List Sf) (v : Value) (w : World) (hm : sizFs L ≤ 1048576) (h : wkSfs.R w L [v]) : Calls Try.prog 64 #[v] w (ToFs L w) := by
 obtain ⟨⟨A, c, rfl⟩, _⟩ := wkSl_form h
 obtain ⟨n, hn⟩ : ∃ n, n = L.length := ⟨_, rfl⟩
 have hsz := hm
 unfold sizFs at hsz
 rw [← hn] at h hsz ⊢
 have Hn := Lib.hid hn
 have H := Lib.hid h
 have Hl := Lib.hid (show lenFs L ≤ 1048576 by omega)
 have hn2 : n ≤ 1048576 := by omega
 have hmk := fun W => make_sf n (by omega) W
 have hlz : (List.replicate n sfZero).length = L.length := by rw [List.length_replicate, hn]
 have Hlz := Lib.hid hlz
 clear h hn hm hsz hlz
 go_enter Try.func64, Try.ntmps64
 go_wp2_with fail
 go_loopw [4] (fun s4 wr => ∃ (k : Nat) (xs : List (List Value)) (bss : List (List Nat)), k ≤ n ∧ s4 = .int .i64 k ∧ SlU repSf 80 11 wr (mixG L (List.replicate n sfZero) k) w.heap.size n n xs bss ∧ Hid (w.heap.size ∉ bss.flatten ∧ bss.flatten.Nodup ∧ ∀ b ∈ bss.flatten, w.heap.size ≤ b) ∧ Hid (Below w.heap.size w wr)) (fun s4 _ => n - (intOf s4).toNat)
 case atStart => exact ⟨0, _, _, Nat.zero_le _, rfl, by rw [mix_zero]; exact slu_made_sf w n (by omega), Lib.hid (by simp), Lib.hid ((Below.refl _ _).alloc (Nat.le_refl _) _)⟩
 case round =>
  clear hmk
  obtain ⟨k, xs, bss, hk, rfl, hU, Hnd, HB⟩ := hrel
  by_cases hlt : k < n
  ·obtain ⟨ad, f, ys, rfl, hf, hyl, hR, hC⟩ := wkSl_at (wkSfs.call H.out HB.out) (by omega) (k := k) (by rw [← Hn.out]; exact hlt)
   have hR2 := hR
   obtain ⟨d, rfl, hd⟩ := hR2
   have HZ := Lib.hid (to_sf f d wr hR (by have := lenFs_at hf; have := Hl.out; omega))
   have Hf := Lib.hid hf
   have k0 : (0 : Int) ≤ (k : Int) := by omega
   have k1 : (k : Int) < (n : Int) := by omega
   have c0 := hC.1
   simp only [sfCells, List.getElem?_cons_zero] at c0
   have c1 := hC.2 1 _ (by omega) rfl
   have c2 := hC.2 2 _ (by omega) rfl
   have c3 := hC.2 3 _ (by omega) rfl
   have c4 := hC.2 4 _ (by omega) rfl
   have c5 := hC.2 5 _ (by omega) rfl
   have c6 := hC.2 6 _ (by omega) rfl
   have c7 := hC.2 7 _ (by omega) rfl
   have c8 := hC.2 8 _ (by omega) rfl
   have c9 := hC.2 9 _ (by omega) rfl
   have c10 := hC.2 10 _ (by omega) rfl
   clear hf hR hd hC hyl
   go_wp2_with fail
   refine HZ.out.mono ?_
   rintro e w1 ⟨u, bsU, rfl, ho, hb⟩
   obtain ⟨Au, cu, hu⟩ := form_sf ho.r
   subst hu
   clear c0 c1 c2 c3 c4 c5 c6 c7 c8 c9 c10
   have hlo1 := hU.lt
   have HRO := Lib.hid (rowsR_ex hU.rr)
   replace hU := hU.call hb
   have HB1 := Lib.hid (belI_call HB.out hb)
   clear hb
   obtain ⟨a0, x, b, ha0, hx, hbk, hxl, hRx, hcx⟩ := hU.at_ hlt
   obtain ⟨v0, hv0⟩ : ∃ v, x[0]? = some v := ⟨_, List.getElem?_eq_getElem (by omega)⟩
   have y0 := hcx 0 _ hv0
   rw [Nat.add_zero] at y0
   obtain ⟨v1, hv1⟩ : ∃ v, x[1]? = some v := ⟨_, List.getElem?_eq_getElem (by omega)⟩
   have y1 := hcx 1 _ hv1
   obtain ⟨v2, hv2⟩ : ∃ v, x[2]? = some v := ⟨_, List.getElem?_eq_getElem (by omega)⟩
   have y2 := hcx 2 _ hv2
   obtain ⟨v3, hv3⟩ : ∃ v, x[3]? = some v := ⟨_, List.getElem?_eq_getElem (by omega)⟩
   have y3 := hcx 3 _ hv3
   obtain ⟨v4, hv4⟩ : ∃ v, x[4]? = some v := ⟨_, List.getElem?_eq_getElem (by omega)⟩
   have y4 := hcx 4 _ hv4
   obtain ⟨v5, hv5⟩ : ∃ v, x[5]? = some v := ⟨_, List.getElem?_eq_getElem (by omega)⟩
   have y5 := hcx 5 _ hv5
   obtain ⟨v6, hv6⟩ : ∃ v, x[6]? = some v := ⟨_, List.getElem?_eq_getElem (by omega)⟩
   have y6 := hcx 6 _ hv6
   obtain ⟨v7, hv7⟩ : ∃ v, x[7]? = some v := ⟨_, List.getElem?_eq_getElem (by omega)⟩
   have y7 := hcx 7 _ hv7
   obtain ⟨v8, hv8⟩ : ∃ v, x[8]? = some v := ⟨_, List.getElem?_eq_getElem (by omega)⟩
   have y8 := hcx 8 _ hv8
   obtain ⟨v9, hv9⟩ : ∃ v, x[9]? = some v := ⟨_, List.getElem?_eq_getElem (by omega)⟩
   have y9 := hcx 9 _ hv9
   obtain ⟨v10, hv10⟩ : ∃ v, x[10]? = some v := ⟨_, List.getElem?_eq_getElem (by omega)⟩
   have y10 := hcx 10 _ hv10
   have z0 := hU.frozen (k * 11)
   have z1 := hU.frozen (k * 11 + 1)
   have z2 := hU.frozen (k * 11 + 2)
   have z3 := hU.frozen (k * 11 + 3)
   have z4 := hU.frozen (k * 11 + 4)
   have z5 := hU.frozen (k * 11 + 5)
   have z6 := hU.frozen (k * 11 + 6)
   have z7 := hU.frozen (k * 11 + 7)
   have z8 := hU.frozen (k * 11 + 8)
   have z9 := hU.frozen (k * 11 + 9)
   have z10 := hU.frozen (k * 11 + 10)
   have hkx : k < xs.length := (List.getElem?_eq_some_iff.1 hx).1
   have hS0 := SetK.zero hU hx
   have hS1 := hS0.put hkx 0 (by omega) (.int .i64 f.id) rfl
   have hS2 := hS1.put hkx 1 (by omega) (.int .i64 f.x) rfl
   have hS3 := hS2.put hkx 2 (by omega) (.int .i64 f.y) rfl
   have hS4 := hS3.put hkx 3 (by omega) (.int .i64 f.w) rfl
   have hS5 := hS4.put hkx 4 (by omega) (.int .i64 f.h) rfl
   have hS6 := hS5.put hkx 5 (by omega) (.int .i64 f.alpha) rfl
   have hS7 := hS6.put hkx 6 (by omega) (.int .i64 f.orient) rfl
   have hS8 := hS7.put hkx 7 (by omega) (.bool f.vis) rfl
   have hS9 := hS8.put hkx 8 (by omega) (.int .i64 f.bw) rfl
   have hS10 := hS9.put hkx 9 (by omega) (.int .i64 f.bh) rfl
   have hS11 := hS10.put hkx 10 (by omega) (.slice Au f.data.length cu) rfl
   have hSN : SetK 80 11 w1 (((((((((((w1.setCell ⟨w.heap.size, k * 11, none⟩ (.int .i64 f.id)).setCell ⟨w.heap.size, k * 11 + 1, none⟩ (.int .i64 f.x)).setCell ⟨w.heap.size, k * 11 + 2, none⟩ (.int .i64 f.y)).setCell ⟨w.heap.size, k * 11 + 3, none⟩ (.int .i64 f.w)).setCell ⟨w.heap.size, k * 11 + 4, none⟩ (.int .i64 f.h)).setCell ⟨w.heap.size, k * 11 + 5, none⟩ (.int .i64 f.alpha)).setCell ⟨w.heap.size, k * 11 + 6, none⟩ (.int .i64 f.orient)).setCell ⟨w.heap.size, k * 11 + 7, none⟩ (.bool f.vis)).setCell ⟨w.heap.size, k * 11 + 8, none⟩ (.int .i64 f.bw)).setCell ⟨w.heap.size, k * 11 + 9, none⟩ (.int .i64 f.bh)).setCell ⟨w.heap.size, k * 11 + 10, none⟩ (.slice Au f.data.length cu)) w.heap.size n n k xs (sfCells f (.slice Au f.data.length cu)) := by
    have h := hS11
    have hx' : x.length = 11 := hxl
    match x, hx' with
    | [q0, q1, q2, q3, q4, q5, q6, q7, q8, q9, q10], _ => exact h
   have Hfin : Hid (∃ xs' bss', SlU repSf 80 11 ((((((((((((w1.setCell ⟨w.heap.size, k * 11, none⟩ (.int .i64 f.id)).setCell ⟨w.heap.size, k * 11 + 1, none⟩ (.int .i64 f.x)).setCell ⟨w.heap.size, k * 11 + 2, none⟩ (.int .i64 f.y)).setCell ⟨w.heap.size, k * 11 + 3, none⟩ (.int .i64 f.w)).setCell ⟨w.heap.size, k * 11 + 4, none⟩ (.int .i64 f.h)).setCell ⟨w.heap.size, k * 11 + 5, none⟩ (.int .i64 f.alpha)).setCell ⟨w.heap.size, k * 11 + 6, none⟩ (.int .i64 f.orient)).setCell ⟨w.heap.size, k * 11 + 7, none⟩ (.bool f.vis)).setCell ⟨w.heap.size, k * 11 + 8, none⟩ (.int .i64 f.bw)).setCell ⟨w.heap.size, k * 11 + 9, none⟩ (.int .i64 f.bh)).setCell ⟨w.heap.size, k * 11 + 10, none⟩ (.slice Au f.data.length cu))) (mixG L (List.replicate n sfZero) (k + 1)) w.heap.size n n xs' bss' ∧ (w.heap.size ∉ bss'.flatten ∧ bss'.flatten.Nodup ∧ ∀ b ∈ bss'.flatten, w.heap.size ≤ b) ∧ Below w.heap.size w ((((((((((((w1.setCell ⟨w.heap.size, k * 11, none⟩ (.int .i64 f.id)).setCell ⟨w.heap.size, k * 11 + 1, none⟩ (.int .i64 f.x)).setCell ⟨w.heap.size, k * 11 + 2, none⟩ (.int .i64 f.y)).setCell ⟨w.heap.size, k * 11 + 3, none⟩ (.int .i64 f.w)).setCell ⟨w.heap.size, k * 11 + 4, none⟩ (.int .i64 f.h)).setCell ⟨w.heap.size, k * 11 + 5, none⟩ (.int .i64 f.alpha)).setCell ⟨w.heap.size, k * 11 + 6, none⟩ (.int .i64 f.orient)).setCell ⟨w.heap.size, k * 11 + 7, none⟩ (.bool f.vis)).setCell ⟨w.heap.size, k * 11 + 8, none⟩ (.int .i64 f.bw)).setCell ⟨w.heap.size, k * 11 + 9, none⟩ (.int .i64 f.bh)).setCell ⟨w.heap.size, k * 11 + 10, none⟩ (.slice Au f.data.length cu)))) := by
    obtain ⟨n1, n2, n3⟩ := Hnd.out
    have hfresh : ∀ b ∈ bsU, b ∉ bss.flatten := fun b hb hm => by
     have h1 := ho.lo b hb
     have h2 := HRO.out b hm
     omega
    have hch := Chg.of_grown hSN.gr
    have hUn := SlU.upd (a' := f) (b' := bsU) hU hlt hSN.ow hSN.ls (Rep.chg ho.r hch (fun b hb e => by have h7 := ho.lo b hb; have h8 : b = w.heap.size := (by simpa using e); omega)) (fun j d hj hd b hb => hch.block b (by have := rowsR_ex hU.rr b (flat_mem hd hb); exact this) (fun e => n1 (by rw [← show b = w.heap.size by simpa using e]; exact flat_mem hd hb)))
    obtain ⟨m1, m2⟩ := flat_set_nodup n2 hbk ho.nd hfresh
    rw [mix_set Hlz.out.symm Hf.out] at hUn
    refine ⟨_, _, hUn, ⟨fun e => ?_, m1, fun b hb => ?_⟩, HB1.out.grown hSN.gr HB1.out.size (fun q hq => by have := Option.some.inj hq; omega)⟩
    ·rcases m2 _ e with h | h
     ·exact n1 h
     ·have := ho.lo _ h; omega
    ·rcases m2 _ hb with h | h
     ·exact n3 b h
     ·have := ho.lo b h; omega
   clear hS0 hS1 hS2 hS3 hS4 hS5 hS6 hS7 hS8 hS9 hS10 hS11 hSN hv0 hv1 hv2 hv3 hv4 hv5 hv6 hv7 hv8 hv9 hv10 ho hU hRx hcx ha0 hx hbk
   go_wp2_with fail
   go_roundw
   case rel =>
    obtain ⟨xs', bss', q1, q2, q3⟩ := Hfin.out
    exact ⟨k + 1, xs', bss', by omega, by go_num, q1, Lib.hid q2, Lib.hid q3⟩
   case measure => simp [intOf]; omega
  ·obtain rfl : k = n := by omega
   obtain ⟨n1, n2, n3⟩ := Hnd.out
   have HO := Lib.hid (hU.own (B := w.heap.size) n1 n2 (Nat.le_refl _) n3)
   clear hU
   go_wp2_with fail
   go_ret
   have h := HO.out
   rw [show mixG L (List.replicate k sfZero) k = L from by have := mix_all Hlz.out.symm; rwa [List.length_replicate] at this] at h
   exact ⟨.slice (some ⟨w.heap.size, 0, none⟩) k k, _, rfl, h, HB.out⟩
set_option maxHeartbeats 2000000 in
set_option maxRecDepth 10000 in
theorem to_sn (f : Sn) (d : Value) (w : World) (hr : wkSn.R w f [.int .i64 f.w, .int .i64 f.h, .int .i64 f.back, d]) (hm : (sizFs f.fs) ≤ 1048576) : Calls Try.prog 16 #[.agg #[.int .i64 f.w, .int .i64 f.h, .int .i64 f.back, d]] w fun e w' => ∃ u bs, e = .returned (.agg #[.int .i64 f.w, .int .i64 f.h, .int .i64 f.back, u]) ∧ repSn.Own w.heap.size w' f [.int .i64 f.w, .int .i64 f.h, .int .i64 f.back, u] bs ∧ Below w.heap.size w w' := by
 have hB : Below w.heap.size w (((w.alloc (.cells #[.int .i64 f.w, .int .i64 f.h, .int .i64 f.back, d] 27)).alloc (.cells #[.int .i64 0, .int .i64 0, .int .i64 0, .slice none 0 0] 36)).alloc (.cells #[.int .i64 f.w, .int .i64 f.h, .int .i64 f.back, .slice none 0 0] 36)) := belI_call (belI_call (belI_box _ _) (belI_box _ _)) (belI_box _ _)
 have hI : BkAt (((w.alloc (.cells #[.int .i64 f.w, .int .i64 f.h, .int .i64 f.back, d] 27)).alloc (.cells #[.int .i64 0, .int .i64 0, .int .i64 0, .slice none 0 0] 36)).alloc (.cells #[.int .i64 f.w, .int .i64 f.h, .int .i64 f.back, .slice none 0 0] 36)) (w.heap.size + 1 + 1) 36 #[.int .i64 f.w, .int .i64 f.h, .int .i64 f.back, .slice none 0 0] := BkAt.newAt (by simp) _ _
 have hZ : BkAt (((w.alloc (.cells #[.int .i64 f.w, .int .i64 f.h, .int .i64 f.back, d] 27)).alloc (.cells #[.int .i64 0, .int .i64 0, .int .i64 0, .slice none 0 0] 36)).alloc (.cells #[.int .i64 f.w, .int .i64 f.h, .int .i64 f.back, .slice none 0 0] 36)) (w.heap.size + 1) 36 #[.int .i64 0, .int .i64 0, .int .i64 0, .slice none 0 0] := BkAt.alloc (BkAt.newAt (by simp) _ _) _
 have HR := Lib.hid (wkSfs.call (wr_sn hr) hB)
 obtain ⟨W0, hW0⟩ : ∃ W, W = (((w.alloc (.cells #[.int .i64 f.w, .int .i64 f.h, .int .i64 f.back, d] 27)).alloc (.cells #[.int .i64 0, .int .i64 0, .int .i64 0, .slice none 0 0] 36)).alloc (.cells #[.int .i64 f.w, .int .i64 f.h, .int .i64 f.back, .slice none 0 0] 36)) := ⟨_, rfl⟩
 rw [← hW0] at hB hI hZ HR
 have HW := Lib.hid hW0
 have Hm := Lib.hid hm
 obtain ⟨A0, c0, rfl⟩ := wform_sn hr
 clear hm hr hW0
 go_enter Try.func16, Try.ntmps16
 go_wp2_with fail
 rw [← HW.out]
 refine (toFs f.fs _ _ Hm.out HR.out).mono ?_
 rintro e w1 ⟨u, bs, rfl, ho, hb1⟩
 have hlo := hI.lt
 replace hI := hI.call hb1
 replace hZ := hZ.call hb1
 replace hB := belI_call hB hb1
 obtain ⟨A, c, hu⟩ := (repSfs_form ho.r).1
 subst hu
 have Ho := Lib.hid ho
 clear ho hb1
 obtain ⟨a0, a1, a2, a3⟩ := hI.cells4
 obtain ⟨b0, b1, b2, b3⟩ := hZ.cells4
 have fa3 := hI.frozen 3
 have f0 := hZ.frozen 0
 have f1 := hZ.frozen 1
 have f2 := hZ.frozen 2
 have f3 := hZ.frozen 3
 have HI := Lib.hid hI
 have HZ := Lib.hid hZ
 have HB := Lib.hid hB
 clear hI hZ hB
 go_wp2_with fail
 have hJ := (HZ.out.far (p := ⟨w.heap.size + 1 + 1, 3, none⟩) (by dsimp only; omega) (.slice A f.fs.length c)).all4 (.int .i64 f.w) (.int .i64 f.h) (.int .i64 f.back) (.slice A f.fs.length c)
 obtain ⟨x0, x1, x2, x3⟩ := hJ.cells4
 have hC := ((((Chg.setB w1 (w.heap.size + 1 + 1) 3 (.slice A f.fs.length c) [w.heap.size + 1, w.heap.size + 1 + 1] (by simp)).trans (Chg.setB _ (w.heap.size + 1) 0 (.int .i64 f.w) _ (by simp))).trans (Chg.setB _ (w.heap.size + 1) 1 (.int .i64 f.h) _ (by simp))).trans (Chg.setB _ (w.heap.size + 1) 2 (.int .i64 f.back) _ (by simp))).trans (Chg.setB _ (w.heap.size + 1) 3 (.slice A f.fs.length c) _ (by simp))
 have hown := Rep.Own.chg Ho.out hC (fun k hk e => by have := Ho.out.lo k hk; rcases mem2 e with rfl | rfl <;> omega)
 have hbel := hC.below HB.out HB.out.size (fun b hb => by rcases mem2 hb with rfl | rfl <;> omega)
 exact bodyPost_ret (v := .agg #[.int .i64 f.w, .int .i64 f.h, .int .i64 f.back, .slice A f.fs.length c]) (by simp [results, Try.results16, go_sem, x0, x1, x2, x3]) rfl ⟨_, _, rfl, own_sn' (hown.mono (by omega)), hbel⟩
end Go.Proofs.Ytnndifemkichmaa
