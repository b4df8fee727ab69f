/- The laws' copies of lists of images and of regions. No statement is proved here. -/
import Derived.Test.YtnndifemkichmaaMA
import Derived.Test.YtnndifemkichmaaMB
import Derived.Test.YtnndifemkichmaaLk
import Derived.Test.YtnndifemkichmaaMC
import Derived.Test.YtnndifemkichmaaRgK
import Derived.Test.YtnndifemkichmaaSnL
import Derived.Test.YtnndifemkichmaaChM
import Derived.Test.YtnndifemkichmaaIsE
import Derived.Test.YtnndifemkichmaaSlE
import Derived.Test.YtnndifemkichmaaSlT
import Derived.Test.YtnndifemkichmaaProg
import Derived.WalkKit
import Derived.ProofKit
import Derived.OpenShut
import Derived.WalkLawsBesides
import Derived.WalkSpells
import Derived.ShutString
import Derived.ChangeOld
import Derived.Below
import Derived.Lib.Hide
import Derived.BigQuiet
import Derived.Deep.QuietTactic
import Derived.Maps.AppendAt
import Derived.Deep.OwnRows
import Derived.Handy
import Derived.Deep.Draws
import Derived.OwnWalk
import Derived.Deep.AppendLies
import Derived.Deep.LoopGhost
import Derived.Deep.Onto
import Derived.Deep.MidRow
import Derived.Deep.WholeRow
import Derived.Laws.BitsAllLaws
import Derived.Lib.QuoteBits
import Derived.Deep.RegionHeld3
import Derived.Deep.DeepCutAuto
import Derived.Test.YtnndifemkichmaaShelf
import Derived.Laws.CopyOwn
import Derived.Deep.RegionLaw
import Derived.Great.BuildSlice
import Derived.Laws.AppendOwn
namespace Go.Proofs.Ytnndifemkichmaa
open Go.RowKit
theorem infoim : (Try.prog.info? 58).map (fun i => (i.zero, i.size)) = some (some (.agg #[.int .i64 0, .int .i64 0, .slice none 0 0]), 3) := by kernel_rfl
theorem make_im (n : Nat) (hn : n ≤ 2097152) (W : World) : (Instr.makeSlice 32 (.int .i64 (n : Int)) (.int .i64 (n : Int))).run Try.prog W =
  .ok (.slice (some ⟨W.heap.size, 0, none⟩) n n) (W.alloc (.cells (madeCells #[.int .i64 0, .int .i64 0, .slice none 0 0] (n * 3)) 58)) := by
 obtain ⟨i0, hi, hz0, hz1⟩ : ∃ i0, Try.prog.info? 58 = some i0 ∧ i0.zero = some (.agg #[.int .i64 0, .int .i64 0, .slice none 0 0]) ∧ i0.size = 3 := by
  have h := infoim
  cases e : Try.prog.info? 58 with
  | none => rw [e] at h; simp at h
  | some i => rw [e] at h; simp at h; exact ⟨i, rfl, h.1, h.2⟩
 have hby : i0.bytes ≤ 1000 := by
  have h : (Try.prog.info? 58).map (fun i => decide (i.bytes ≤ 1000)) = some true := by kernel_rfl
  rw [hi] at h
  simpa using h
 have hbn : n * i0.bytes ≤ 2097152 * 1000 := Nat.mul_le_mul hn hby
 have hbn2 : i0.bytes * n ≤ 2097152 * 1000 := by rw [Nat.mul_comm]; exact hbn
 have h := run_make (P := Try.prog) W 32 58 i0 _ Try.underlying32 hi hz0 .i64 .i64 n n (by omega) (by omega) (by omega) (by omega)
 rw [hz1] at h
 simpa [Value.cells] using h
theorem slu_made_im (W : World) (n : Nat) (hn : n ≤ 2097152) : SlU repIm 58 3 (W.alloc (.cells (madeCells #[.int .i64 0, .int .i64 0, .slice none 0 0] (n * 3)) 58)) (List.replicate n (⟨0, 0, []⟩ : Im)) W.heap.size n n (List.replicate n [.int .i64 0, .int .i64 0, .slice none 0 0]) (List.replicate n []) := by
 refine ⟨rows_repl (show repIm.R _ (⟨0, 0, []⟩ : Im) [.int .i64 0, .int .i64 0, .slice none 0 0] [] from ⟨.slice none 0 0, rfl, .slice none 0 0, rfl, ⟨rfl, .inl ⟨rfl, rfl⟩⟩, rfl⟩) n, fun x hx => by rw [List.eq_of_mem_replicate hx]; rfl, ?_, by simp⟩
 refine ⟨by rw [flat_len (s := 3) fun x hx => by rw [List.eq_of_mem_replicate hx]; rfl, List.length_replicate], .inr ⟨W.heap.size, n, _, rfl, Nat.zero_le _, heap_alloc_new W _, Nat.le_refl _, by unfold maxLen; omega, size_madeCells _ _, ?_⟩⟩
 have h := made_rows (zs := [.int .i64 0, .int .i64 0, .slice none 0 0]) (n := n) (by simp)
 rw [List.take_of_length_le (by rw [Array.length_toList, size_madeCells]; exact Nat.le_refl _)]
 exact h
def ToIs (L : List Im) (w : World) (e : Ending) (w' : World) : Prop := ∃ u bs, e = .returned u ∧ repIms.Own w.heap.size w' L [u] bs ∧ Below w.heap.size w w'
set_option maxHeartbeats 4000000 in
set_option maxRecDepth 10000 in
theorem toIs (L : List Im) (v : Value) (w : World) (hm : sizIs L ≤ 1048576) (h : wkIms.R w L [v]) : Calls Try.prog 51 #[v] w (ToIs L w) := by
 obtain ⟨⟨A, c, rfl⟩, _⟩ := wkSl_form h
 obtain ⟨n, hn⟩ : ∃ n, n = L.length := ⟨_, rfl⟩
 have hsz := hm
 unfold sizIs at hsz
 rw [← hn] at h hsz ⊢
 have Hn := Lib.hid hn
 have H := Lib.hid h
 have Hl := Lib.hid (show lenIs L ≤ 1048576 by omega)
 have hn2 : n ≤ 1048576 := by omega
 have hmk := fun W => make_im n (by omega) W
 have hlz : (List.replicate n (⟨0, 0, []⟩ : Im)).length = L.length := by rw [List.length_replicate, hn]
 have Hlz := Lib.hid hlz
 clear h hn hm hsz hlz
 go_enter Try.func51, Try.ntmps51
 go_wp2_with fail
 go_loopw [4] (fun s4 wr => ∃ (k : Nat) (xs : List (List Value)) (bss : List (List Nat)), k ≤ n ∧ s4 = .int .i64 k ∧ SlU repIm 58 3 wr (mixG L (List.replicate n (⟨0, 0, []⟩ : Im)) k) w.heap.size n n xs bss ∧ Hid (w.heap.size ∉ bss.flatten ∧ bss.flatten.Nodup ∧ ∀ b ∈ bss.flatten, w.heap.size ≤ b) ∧ Hid (Below w.heap.size w wr)) (fun s4 _ => n - (intOf s4).toNat)
 case atStart => exact ⟨0, _, _, Nat.zero_le _, rfl, by rw [mix_zero]; exact slu_made_im w n (by omega), Lib.hid (by simp), Lib.hid ((Below.refl _ _).alloc (Nat.le_refl _) _)⟩
 case round =>
  clear hmk
  obtain ⟨k, xs, bss, hk, rfl, hU, Hnd, HB⟩ := hrel
  by_cases hlt : k < n
  ·obtain ⟨ad, f, ys, rfl, hf, hyl, hR, hC⟩ := wkSl_at (wkIms.call H.out HB.out) (by omega) (k := k) (by rw [← Hn.out]; exact hlt)
   have hR2 := hR
   obtain ⟨d, rfl, hd⟩ := hR2
   have HZ := Lib.hid (to_im f d wr hR (by have := lenIs_at hf; have := Hl.out; omega))
   have Hf := Lib.hid hf
   have k0 : (0 : Int) ≤ (k : Int) := by omega
   have k1 : (k : Int) < (n : Int) := by omega
   have c0 := hC.1
   simp only [imCells, List.getElem?_cons_zero] at c0
   have c1 := hC.2 1 _ (by omega) rfl
   have c2 := hC.2 2 _ (by omega) rfl
   clear hf hR hd hC hyl
   go_wp2_with fail
   refine HZ.out.mono ?_
   rintro e w1 ⟨u, bsU, rfl, ho, hb⟩
   obtain ⟨Au, cu, hu⟩ := form_im ho.r
   subst hu
   clear c0 c1 c2
   have hlo1 := hU.lt
   have HRO := Lib.hid (rowsR_ex hU.rr)
   replace hU := hU.call hb
   have HB1 := Lib.hid (belI_call HB.out hb)
   clear hb
   obtain ⟨a0, x, b, ha0, hx, hbk, hxl, hRx, hcx⟩ := hU.at_ hlt
   obtain ⟨v0, hv0⟩ : ∃ v, x[0]? = some v := ⟨_, List.getElem?_eq_getElem (by omega)⟩
   have y0 := hcx 0 _ hv0
   rw [Nat.add_zero] at y0
   obtain ⟨v1, hv1⟩ : ∃ v, x[1]? = some v := ⟨_, List.getElem?_eq_getElem (by omega)⟩
   have y1 := hcx 1 _ hv1
   obtain ⟨v2, hv2⟩ : ∃ v, x[2]? = some v := ⟨_, List.getElem?_eq_getElem (by omega)⟩
   have y2 := hcx 2 _ hv2
   have z0 := hU.frozen (k * 3)
   have z1 := hU.frozen (k * 3 + 1)
   have z2 := hU.frozen (k * 3 + 2)
   have hkx : k < xs.length := (List.getElem?_eq_some_iff.1 hx).1
   have hS0 := SetK.zero hU hx
   have hS1 := hS0.put hkx 0 (by omega) (.int .i64 f.w) rfl
   have hS2 := hS1.put hkx 1 (by omega) (.int .i64 f.h) rfl
   have hS3 := hS2.put hkx 2 (by omega) (.slice Au f.d.length cu) rfl
   have hSN : SetK 58 3 w1 (((w1.setCell ⟨w.heap.size, k * 3, none⟩ (.int .i64 f.w)).setCell ⟨w.heap.size, k * 3 + 1, none⟩ (.int .i64 f.h)).setCell ⟨w.heap.size, k * 3 + 2, none⟩ (.slice Au f.d.length cu)) w.heap.size n n k xs (imCells f (.slice Au f.d.length cu)) := by
    have h := hS3
    have hx' : x.length = 3 := hxl
    match x, hx' with
    | [q0, q1, q2], _ => exact h
   have Hfin : Hid (∃ xs' bss', SlU repIm 58 3 ((((w1.setCell ⟨w.heap.size, k * 3, none⟩ (.int .i64 f.w)).setCell ⟨w.heap.size, k * 3 + 1, none⟩ (.int .i64 f.h)).setCell ⟨w.heap.size, k * 3 + 2, none⟩ (.slice Au f.d.length cu))) (mixG L (List.replicate n (⟨0, 0, []⟩ : Im)) (k + 1)) w.heap.size n n xs' bss' ∧ (w.heap.size ∉ bss'.flatten ∧ bss'.flatten.Nodup ∧ ∀ b ∈ bss'.flatten, w.heap.size ≤ b) ∧ Below w.heap.size w ((((w1.setCell ⟨w.heap.size, k * 3, none⟩ (.int .i64 f.w)).setCell ⟨w.heap.size, k * 3 + 1, none⟩ (.int .i64 f.h)).setCell ⟨w.heap.size, k * 3 + 2, none⟩ (.slice Au f.d.length cu)))) := by
    obtain ⟨n1, n2, n3⟩ := Hnd.out
    have hfresh : ∀ b ∈ bsU, b ∉ bss.flatten := fun b hb hm => by
     have h1 := ho.lo b hb
     have h2 := HRO.out b hm
     omega
    have hch := Chg.of_grown hSN.gr
    have hUn := SlU.upd (a' := f) (b' := bsU) hU hlt hSN.ow hSN.ls (Rep.chg ho.r hch (fun b hb e => by have h7 := ho.lo b hb; have h8 : b = w.heap.size := (by simpa using e); omega)) (fun j d hj hd b hb => hch.block b (by have := rowsR_ex hU.rr b (flat_mem hd hb); exact this) (fun e => n1 (by rw [← show b = w.heap.size by simpa using e]; exact flat_mem hd hb)))
    obtain ⟨m1, m2⟩ := flat_set_nodup n2 hbk ho.nd hfresh
    rw [mix_set Hlz.out.symm Hf.out] at hUn
    refine ⟨_, _, hUn, ⟨fun e => ?_, m1, fun b hb => ?_⟩, HB1.out.grown hSN.gr HB1.out.size (fun q hq => by have := Option.some.inj hq; omega)⟩
    ·rcases m2 _ e with h | h
     ·exact n1 h
     ·have := ho.lo _ h; omega
    ·rcases m2 _ hb with h | h
     ·exact n3 b h
     ·have := ho.lo b h; omega
   clear hS0 hS1 hS2 hS3 hSN hv0 hv1 hv2 ho hU hRx hcx ha0 hx hbk
   go_wp2_with fail
   go_roundw
   case rel =>
    obtain ⟨xs', bss', q1, q2, q3⟩ := Hfin.out
    exact ⟨k + 1, xs', bss', by omega, by go_num, q1, Lib.hid q2, Lib.hid q3⟩
   case measure => simp [intOf]; omega
  ·obtain rfl : k = n := by omega
   obtain ⟨n1, n2, n3⟩ := Hnd.out
   have HO := Lib.hid (hU.own (B := w.heap.size) n1 n2 (Nat.le_refl _) n3)
   clear hU
   go_wp2_with fail
   go_ret
   have h := HO.out
   rw [show mixG L (List.replicate k (⟨0, 0, []⟩ : Im)) k = L from by have := mix_all Hlz.out.symm; rwa [List.length_replicate] at this] at h
   exact ⟨.slice (some ⟨w.heap.size, 0, none⟩) k k, _, rfl, h, HB.out⟩
theorem inforg : (Try.prog.info? 90).map (fun i => (i.zero, i.size)) = some (some (.agg #[.slice none 0 0]), 1) := by kernel_rfl
theorem make_rg (n : Nat) (hn : n ≤ 2097152) (W : World) : (Instr.makeSlice 33 (.int .i64 (n : Int)) (.int .i64 (n : Int))).run Try.prog W =
  .ok (.slice (some ⟨W.heap.size, 0, none⟩) n n) (W.alloc (.cells (madeCells #[.slice none 0 0] (n * 1)) 90)) := by
 obtain ⟨i0, hi, hz0, hz1⟩ : ∃ i0, Try.prog.info? 90 = some i0 ∧ i0.zero = some (.agg #[.slice none 0 0]) ∧ i0.size = 1 := by
  have h := inforg
  cases e : Try.prog.info? 90 with
  | none => rw [e] at h; simp at h
  | some i => rw [e] at h; simp at h; exact ⟨i, rfl, h.1, h.2⟩
 have hby : i0.bytes ≤ 1000 := by
  have h : (Try.prog.info? 90).map (fun i => decide (i.bytes ≤ 1000)) = some true := by kernel_rfl
  rw [hi] at h
  simpa using h
 have hbn : n * i0.bytes ≤ 2097152 * 1000 := Nat.mul_le_mul hn hby
 have hbn2 : i0.bytes * n ≤ 2097152 * 1000 := by rw [Nat.mul_comm]; exact hbn
 have h := run_make (P := Try.prog) W 33 90 i0 _ Try.underlying33 hi hz0 .i64 .i64 n n (by omega) (by omega) (by omega) (by omega)
 rw [hz1] at h
 simpa [Value.cells] using h
theorem slu_made_rg (W : World) (n : Nat) (hn : n ≤ 2097152) : SlU repRg 90 1 (W.alloc (.cells (madeCells #[.slice none 0 0] (n * 1)) 90)) (List.replicate n ([] : List Rc)) W.heap.size n n (List.replicate n [.slice none 0 0]) (List.replicate n []) := by
 refine ⟨rows_repl (show repRg.R _ ([] : List Rc) [.slice none 0 0] [] from ⟨.slice none 0 0, rfl, ⟨rfl, .inl ⟨rfl, rfl⟩⟩, rfl⟩) n, fun x hx => by rw [List.eq_of_mem_replicate hx]; rfl, ?_, by simp⟩
 refine ⟨by rw [flat_len (s := 1) fun x hx => by rw [List.eq_of_mem_replicate hx]; rfl, List.length_replicate], .inr ⟨W.heap.size, n, _, rfl, Nat.zero_le _, heap_alloc_new W _, Nat.le_refl _, by unfold maxLen; omega, size_madeCells _ _, ?_⟩⟩
 have h := made_rows (zs := [.slice none 0 0]) (n := n) (by simp)
 rw [List.take_of_length_le (by rw [Array.length_toList, size_madeCells]; exact Nat.le_refl _)]
 exact h
def ToGs (L : List (List Rc)) (w : World) (e : Ending) (w' : World) : Prop := ∃ u bs, e = .returned u ∧ repRgs.Own w.heap.size w' L [u] bs ∧ Below w.heap.size w w'
set_option maxHeartbeats 4000000 in
set_option maxRecDepth 10000 in
theorem toGs (L : List (List Rc)) (v : Value) (w : World) (hm : sizGs L ≤ 1048576) (h : wkRgs.R w L [v]) : Calls Try.prog 53 #[v] w (ToGs L w) := by
 obtain ⟨⟨A, c, rfl⟩, _⟩ := wkSl_form h
 obtain ⟨n, hn⟩ : ∃ n, n = L.length := ⟨_, rfl⟩
 have hsz := hm
 unfold sizGs at hsz
 rw [← hn] at h hsz ⊢
 have Hn := Lib.hid hn
 have H := Lib.hid h
 have Hl := Lib.hid (show lenGs L ≤ 1048576 by omega)
 have hn2 : n ≤ 1048576 := by omega
 have hmk := fun W => make_rg n (by omega) W
 have hlz : (List.replicate n ([] : List Rc)).length = L.length := by rw [List.length_replicate, hn]
 have Hlz := Lib.hid hlz
 clear h hn hm hsz hlz
 go_enter Try.func53, Try.ntmps53
 go_wp2_with fail
 go_loopw [4] (fun s4 wr => ∃ (k : Nat) (xs : List (List Value)) (bss : List (List Nat)), k ≤ n ∧ s4 = .int .i64 k ∧ SlU repRg 90 1 wr (mixG L (List.replicate n ([] : List Rc)) k) w.heap.size n n xs bss ∧ Hid (w.heap.size ∉ bss.flatten ∧ bss.flatten.Nodup ∧ ∀ b ∈ bss.flatten, w.heap.size ≤ b) ∧ Hid (Below w.heap.size w wr)) (fun s4 _ => n - (intOf s4).toNat)
 case atStart => exact ⟨0, _, _, Nat.zero_le _, rfl, by rw [mix_zero]; have h := slu_made_rg w n (by omega); rw [Nat.mul_one] at h; exact h, Lib.hid (by simp), Lib.hid ((Below.refl _ _).alloc (Nat.le_refl _) _)⟩
 case round =>
  clear hmk
  obtain ⟨k, xs, bss, hk, rfl, hU, Hnd, HB⟩ := hrel
  by_cases hlt : k < n
  ·obtain ⟨ad, f, ys, rfl, hf, hyl, hR, hC⟩ := wkSl_at (wkRgs.call H.out HB.out) (by omega) (k := k) (by rw [← Hn.out]; exact hlt)
   have hR2 := hR
   obtain ⟨d, rfl, hd⟩ := hR2
   have HZ := Lib.hid (to_rg f d wr hR (by have := lenGs_at hf; have := Hl.out; omega))
   have Hf := Lib.hid hf
   have k0 : (0 : Int) ≤ (k : Int) := by omega
   have k1 : (k : Int) < (n : Int) := by omega
   have c0 := hC.1
   simp only [List.getElem?_cons_zero, Nat.mul_one] at c0
   clear hf hR hd hC hyl
   go_wp2_with fail
   refine HZ.out.mono ?_
   rintro e w1 ⟨u, bsU, rfl, ho, hb⟩
   obtain ⟨Au, cu, hu⟩ := form_rg ho.r
   subst hu
   clear c0
   have hlo1 := hU.lt
   have HRO := Lib.hid (rowsR_ex hU.rr)
   replace hU := hU.call hb
   have HB1 := Lib.hid (belI_call HB.out hb)
   clear hb
   obtain ⟨a0, x, b, ha0, hx, hbk, hxl, hRx, hcx⟩ := hU.at_ hlt
   obtain ⟨v0, hv0⟩ : ∃ v, x[0]? = some v := ⟨_, List.getElem?_eq_getElem (by omega)⟩
   have y0 := hcx 0 _ hv0
   rw [Nat.add_zero, Nat.mul_one] at y0
   have z0 := hU.frozen k
   have hkx : k < xs.length := (List.getElem?_eq_some_iff.1 hx).1
   have hS0 := SetK.zero hU hx
   have hS1 := hS0.put hkx 0 (by omega) (.slice Au f.length cu) rfl
   have hSN : SetK 90 1 w1 (w1.setCell ⟨w.heap.size, k, none⟩ (.slice Au f.length cu)) w.heap.size n n k xs (rgCells f (.slice Au f.length cu)) := by
    have h := hS1
    simp only [Nat.mul_one, Nat.add_zero] at h
    have hx' : x.length = 1 := hxl
    match x, hx' with
    | [q0], _ => exact h
   have Hfin : Hid (∃ xs' bss', SlU repRg 90 1 ((w1.setCell ⟨w.heap.size, k, none⟩ (.slice Au f.length cu))) (mixG L (List.replicate n ([] : List Rc)) (k + 1)) w.heap.size n n xs' bss' ∧ (w.heap.size ∉ bss'.flatten ∧ bss'.flatten.Nodup ∧ ∀ b ∈ bss'.flatten, w.heap.size ≤ b) ∧ Below w.heap.size w ((w1.setCell ⟨w.heap.size, k, none⟩ (.slice Au f.length cu)))) := by
    obtain ⟨n1, n2, n3⟩ := Hnd.out
    have hfresh : ∀ b ∈ bsU, b ∉ bss.flatten := fun b hb hm => by
     have h1 := ho.lo b hb
     have h2 := HRO.out b hm
     omega
    have hch := Chg.of_grown hSN.gr
    have hUn := SlU.upd (a' := f) (b' := bsU) hU hlt hSN.ow hSN.ls (Rep.chg ho.r hch (fun b hb e => by have h7 := ho.lo b hb; have h8 : b = w.heap.size := (by simpa using e); omega)) (fun j d hj hd b hb => hch.block b (by have := rowsR_ex hU.rr b (flat_mem hd hb); exact this) (fun e => n1 (by rw [← show b = w.heap.size by simpa using e]; exact flat_mem hd hb)))
    obtain ⟨m1, m2⟩ := flat_set_nodup n2 hbk ho.nd hfresh
    rw [mix_set Hlz.out.symm Hf.out] at hUn
    refine ⟨_, _, hUn, ⟨fun e => ?_, m1, fun b hb => ?_⟩, HB1.out.grown hSN.gr HB1.out.size (fun q hq => by have := Option.some.inj hq; omega)⟩
    ·rcases m2 _ e with h | h
     ·exact n1 h
     ·have := ho.lo _ h; omega
    ·rcases m2 _ hb with h | h
     ·exact n3 b h
     ·have := ho.lo b h; omega
   clear hS0 hS1 hSN hv0 ho hU hRx hcx ha0 hx hbk
   go_wp2_with fail
   go_roundw
   case rel =>
    obtain ⟨xs', bss', q1, q2, q3⟩ := Hfin.out
    exact ⟨k + 1, xs', bss', by omega, by go_num, q1, Lib.hid q2, Lib.hid q3⟩
   case measure => simp [intOf]; omega
  ·obtain rfl : k = n := by omega
   obtain ⟨n1, n2, n3⟩ := Hnd.out
   have HO := Lib.hid (hU.own (B := w.heap.size) n1 n2 (Nat.le_refl _) n3)
   clear hU
   go_wp2_with fail
   go_ret
   have h := HO.out
   rw [show mixG L (List.replicate k ([] : List Rc)) k = L from by have := mix_all Hlz.out.symm; rwa [List.length_replicate] at this] at h
   exact ⟨.slice (some ⟨w.heap.size, 0, none⟩) k k, _, rfl, h, HB.out⟩
end Go.Proofs.Ytnndifemkichmaa
