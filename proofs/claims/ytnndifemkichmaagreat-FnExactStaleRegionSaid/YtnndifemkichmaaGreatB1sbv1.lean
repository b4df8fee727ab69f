/- Texts of mine in one file: IsT, ChT, ChI, PvT. No statement is proved here. -/
import Derived.Test.YtnndifemkichmaaGreatMA
import Derived.Test.YtnndifemkichmaaGreatMAv1
import Derived.Test.YtnndifemkichmaaGreatB1sav1
import Derived.Test.YtnndifemkichmaaGreatMB
import Derived.Test.YtnndifemkichmaaGreatB1sa
import Derived.Test.YtnndifemkichmaaGreatChLv1
import Derived.Test.YtnndifemkichmaaGreatCombIv1
import Derived.Test.YtnndifemkichmaaGreatB1nav1
import Derived.Test.YtnndifemkichmaaGreatB1sb
import Derived.Test.YtnndifemkichmaaGreatSnS
import Derived.Test.YtnndifemkichmaaGreatProg
import Derived.WalkKit
import Derived.ProofKit
import Derived.OpenShut
import Derived.WalkLawsBesides
import Derived.WalkSpells
import Derived.ShutString
import Derived.ChangeOld
import Derived.Below
import Derived.Lib.Hide
import Derived.BigQuiet
import Derived.Deep.QuietTactic
import Derived.Maps.AppendAt
import Derived.Deep.OwnRows
import Derived.Handy
import Derived.Deep.Draws
import Derived.OwnWalk
import Derived.Deep.AppendLies
import Derived.Deep.LoopGhost
import Derived.Deep.Onto
import Derived.Deep.MidRow
import Derived.Deep.WholeRow
import Derived.Laws.BitsAllLaws
import Derived.Lib.QuoteBits
import Derived.Deep.RegionHeld3
import Derived.Deep.DeepCutAuto
import Derived.Test.YtnndifemkichmaaGreatShelf
import Derived.Laws.CopyOwn
import Derived.Deep.RegionLaw
import Derived.Great.BuildSlice
import Derived.Laws.AppendOwn
import Derived.Shelf.RegionOpenPlain
import Derived.Lib.SliceRun
import Derived.Deep.RegionWith
import Derived.ChangeKeysEq
import Derived.Deep.DeepAppendRoom
namespace Go.Proofs.YtnndifemkichmaaGreat
open Go.RowKit
theorem infoim : (Tryz.prog.info? 70).map (fun i => (i.zero, i.size)) = some (some (.agg #[.int .i64 0, .int .i64 0, .slice none 0 0]), 3) := by kernel_rfl
theorem make_im (n : Nat) (hn : n ≤ 2097152) (W : World) : (Instr.makeSlice 30 (.int .i64 (n : Int)) (.int .i64 (n : Int))).run Tryz.prog W =
  .ok (.slice (some ⟨W.heap.size, 0, none⟩) n n) (W.alloc (.cells (madeCells #[.int .i64 0, .int .i64 0, .slice none 0 0] (n * 3)) 70)) := by
 obtain ⟨i0, hi, hz0, hz1⟩ : ∃ i0, Tryz.prog.info? 70 = some i0 ∧ i0.zero = some (.agg #[.int .i64 0, .int .i64 0, .slice none 0 0]) ∧ i0.size = 3 := by
  have h := infoim
  cases e : Tryz.prog.info? 70 with
  | none => rw [e] at h; simp at h
  | some i => rw [e] at h; simp at h; exact ⟨i, rfl, h.1, h.2⟩
 have hby : i0.bytes ≤ 1000 := by
  have h : (Tryz.prog.info? 70).map (fun i => decide (i.bytes ≤ 1000)) = some true := by kernel_rfl
  rw [hi] at h
  simpa using h
 have hbn : n * i0.bytes ≤ 2097152 * 1000 := Nat.mul_le_mul hn hby
 have hbn2 : i0.bytes * n ≤ 2097152 * 1000 := by rw [Nat.mul_comm]; exact hbn
 have h := run_make (P := Tryz.prog) W 30 70 i0 _ Tryz.underlying30 hi hz0 .i64 .i64 n n (by omega) (by omega) (by omega) (by omega)
 rw [hz1] at h
 simpa [Value.cells] using h
theorem slu_made_im (W : World) (n : Nat) (hn : n ≤ 2097152) : SlU repIm 70 3 (W.alloc (.cells (madeCells #[.int .i64 0, .int .i64 0, .slice none 0 0] (n * 3)) 70)) (List.replicate n (⟨0, 0, []⟩ : Im)) W.heap.size n n (List.replicate n [.int .i64 0, .int .i64 0, .slice none 0 0]) (List.replicate n []) := by
 refine ⟨rows_repl (show repIm.R _ (⟨0, 0, []⟩ : Im) [.int .i64 0, .int .i64 0, .slice none 0 0] [] from ⟨.slice none 0 0, rfl, .slice none 0 0, rfl, ⟨rfl, .inl ⟨rfl, rfl⟩⟩, rfl⟩) n, fun x hx => by rw [List.eq_of_mem_replicate hx]; rfl, ?_, by simp⟩
 refine ⟨by rw [flat_len (s := 3) fun x hx => by rw [List.eq_of_mem_replicate hx]; rfl, List.length_replicate], .inr ⟨W.heap.size, n, _, rfl, Nat.zero_le _, heap_alloc_new W _, Nat.le_refl _, by unfold maxLen; omega, size_madeCells _ _, ?_⟩⟩
 have h := made_rows (zs := [.int .i64 0, .int .i64 0, .slice none 0 0]) (n := n) (by simp)
 rw [List.take_of_length_le (by rw [Array.length_toList, size_madeCells]; exact Nat.le_refl _)]
 exact h
def ToIs (L : List Im) (w : World) (e : Ending) (w' : World) : Prop := ∃ u bs, e = .returned u ∧ repIms.Own w.heap.size w' L [u] bs ∧ Below w.heap.size w w'
set_option maxHeartbeats 4000000 in
set_option maxRecDepth 10000 in
theorem toIs (L : List Im) (v : Value) (w : World) (hm : sizIs L ≤ 1048576) (h : wkIms.R w L [v]) : Calls Tryz.prog 87 #[v] w (ToIs L w) := by
 obtain ⟨⟨A, c, rfl⟩, _⟩ := wkSl_form h
 obtain ⟨n, hn⟩ : ∃ n, n = L.length := ⟨_, rfl⟩
 have hsz := hm
 unfold sizIs at hsz
 rw [← hn] at h hsz ⊢
 have Hn := Lib.hid hn
 have H := Lib.hid h
 have Hl := Lib.hid (show lenIs L ≤ 1048576 by omega)
 have hn2 : n ≤ 1048576 := by omega
 have hmk := fun W => make_im n (by omega) W
 have hlz : (List.replicate n (⟨0, 0, []⟩ : Im)).length = L.length := by rw [List.length_replicate, hn]
 have Hlz := Lib.hid hlz
 clear h hn hm hsz hlz
 go_enter Tryz.func87, Tryz.ntmps87
 go_wp2_with fail
 go_loopw [4] (fun s4 wr => ∃ (k : Nat) (xs : List (List Value)) (bss : List (List Nat)), k ≤ n ∧ s4 = .int .i64 k ∧ SlU repIm 70 3 wr (mixG L (List.replicate n (⟨0, 0, []⟩ : Im)) k) w.heap.size n n xs bss ∧ Hid (w.heap.size ∉ bss.flatten ∧ bss.flatten.Nodup ∧ ∀ b ∈ bss.flatten, w.heap.size ≤ b) ∧ Hid (Below w.heap.size w wr)) (fun s4 _ => n - (intOf s4).toNat)
 case atStart => exact ⟨0, _, _, Nat.zero_le _, rfl, by rw [mix_zero]; exact slu_made_im w n (by omega), Lib.hid (by simp), Lib.hid ((Below.refl _ _).alloc (Nat.le_refl _) _)⟩
 case round =>
  clear hmk
  obtain ⟨k, xs, bss, hk, rfl, hU, Hnd, HB⟩ := hrel
  by_cases hlt : k < n
  ·obtain ⟨ad, f, ys, rfl, hf, hyl, hR, hC⟩ := wkSl_at (wkIms.call H.out HB.out) (by omega) (k := k) (by rw [← Hn.out]; exact hlt)
   have hR2 := hR
   obtain ⟨d, rfl, hd⟩ := hR2
   have HZ := Lib.hid (to_im f d wr hR (by have := lenIs_at hf; have := Hl.out; omega))
   have Hf := Lib.hid hf
   have k0 : (0 : Int) ≤ (k : Int) := by omega
   have k1 : (k : Int) < (n : Int) := by omega
   have c0 := hC.1
   simp only [imCells, List.getElem?_cons_zero] at c0
   have c1 := hC.2 1 _ (by omega) rfl
   have c2 := hC.2 2 _ (by omega) rfl
   clear hf hR hd hC hyl
   go_wp2_with fail
   refine HZ.out.mono ?_
   rintro e w1 ⟨u, bsU, rfl, ho, hb⟩
   obtain ⟨Au, cu, hu⟩ := form_im ho.r
   subst hu
   clear c0 c1 c2
   have hlo1 := hU.lt
   have HRO := Lib.hid (rowsR_ex hU.rr)
   replace hU := hU.call hb
   have HB1 := Lib.hid (belI_call HB.out hb)
   clear hb
   obtain ⟨a0, x, b, ha0, hx, hbk, hxl, hRx, hcx⟩ := hU.at_ hlt
   obtain ⟨v0, hv0⟩ : ∃ v, x[0]? = some v := ⟨_, List.getElem?_eq_getElem (by omega)⟩
   have y0 := hcx 0 _ hv0
   rw [Nat.add_zero] at y0
   obtain ⟨v1, hv1⟩ : ∃ v, x[1]? = some v := ⟨_, List.getElem?_eq_getElem (by omega)⟩
   have y1 := hcx 1 _ hv1
   obtain ⟨v2, hv2⟩ : ∃ v, x[2]? = some v := ⟨_, List.getElem?_eq_getElem (by omega)⟩
   have y2 := hcx 2 _ hv2
   have z0 := hU.frozen (k * 3)
   have z1 := hU.frozen (k * 3 + 1)
   have z2 := hU.frozen (k * 3 + 2)
   have hkx : k < xs.length := (List.getElem?_eq_some_iff.1 hx).1
   have hS0 := SetK.zero hU hx
   have hS1 := hS0.put hkx 0 (by omega) (.int .i64 f.w) rfl
   have hS2 := hS1.put hkx 1 (by omega) (.int .i64 f.h) rfl
   have hS3 := hS2.put hkx 2 (by omega) (.slice Au f.d.length cu) rfl
   have hSN : SetK 70 3 w1 (((w1.setCell ⟨w.heap.size, k * 3, none⟩ (.int .i64 f.w)).setCell ⟨w.heap.size, k * 3 + 1, none⟩ (.int .i64 f.h)).setCell ⟨w.heap.size, k * 3 + 2, none⟩ (.slice Au f.d.length cu)) w.heap.size n n k xs (imCells f (.slice Au f.d.length cu)) := by
    have h := hS3
    have hx' : x.length = 3 := hxl
    match x, hx' with
    | [q0, q1, q2], _ => exact h
   have Hfin : Hid (∃ xs' bss', SlU repIm 70 3 ((((w1.setCell ⟨w.heap.size, k * 3, none⟩ (.int .i64 f.w)).setCell ⟨w.heap.size, k * 3 + 1, none⟩ (.int .i64 f.h)).setCell ⟨w.heap.size, k * 3 + 2, none⟩ (.slice Au f.d.length cu))) (mixG L (List.replicate n (⟨0, 0, []⟩ : Im)) (k + 1)) w.heap.size n n xs' bss' ∧ (w.heap.size ∉ bss'.flatten ∧ bss'.flatten.Nodup ∧ ∀ b ∈ bss'.flatten, w.heap.size ≤ b) ∧ Below w.heap.size w ((((w1.setCell ⟨w.heap.size, k * 3, none⟩ (.int .i64 f.w)).setCell ⟨w.heap.size, k * 3 + 1, none⟩ (.int .i64 f.h)).setCell ⟨w.heap.size, k * 3 + 2, none⟩ (.slice Au f.d.length cu)))) := by
    obtain ⟨n1, n2, n3⟩ := Hnd.out
    have hfresh : ∀ b ∈ bsU, b ∉ bss.flatten := fun b hb hm => by
     have h1 := ho.lo b hb
     have h2 := HRO.out b hm
     omega
    have hch := Chg.of_grown hSN.gr
    have hUn := SlU.upd (a' := f) (b' := bsU) hU hlt hSN.ow hSN.ls (Rep.chg ho.r hch (fun b hb e => by have h7 := ho.lo b hb; have h8 : b = w.heap.size := (by simpa using e); omega)) (fun j d hj hd b hb => hch.block b (by have := rowsR_ex hU.rr b (flat_mem hd hb); exact this) (fun e => n1 (by rw [← show b = w.heap.size by simpa using e]; exact flat_mem hd hb)))
    obtain ⟨m1, m2⟩ := flat_set_nodup n2 hbk ho.nd hfresh
    rw [mix_set Hlz.out.symm Hf.out] at hUn
    refine ⟨_, _, hUn, ⟨fun e => ?_, m1, fun b hb => ?_⟩, HB1.out.grown hSN.gr HB1.out.size (fun q hq => by have := Option.some.inj hq; omega)⟩
    ·rcases m2 _ e with h | h
     ·exact n1 h
     ·have := ho.lo _ h; omega
    ·rcases m2 _ hb with h | h
     ·exact n3 b h
     ·have := ho.lo b h; omega
   clear hS0 hS1 hS2 hS3 hSN hv0 hv1 hv2 ho hU hRx hcx ha0 hx hbk
   go_wp2_with fail
   go_roundw
   case rel =>
    obtain ⟨xs', bss', q1, q2, q3⟩ := Hfin.out
    exact ⟨k + 1, xs', bss', by omega, by go_num, q1, Lib.hid q2, Lib.hid q3⟩
   case measure => simp [intOf]; omega
  ·obtain rfl : k = n := by omega
   obtain ⟨n1, n2, n3⟩ := Hnd.out
   have HO := Lib.hid (hU.own (B := w.heap.size) n1 n2 (Nat.le_refl _) n3)
   clear hU
   go_wp2_with fail
   go_ret
   have h := HO.out
   rw [show mixG L (List.replicate k (⟨0, 0, []⟩ : Im)) k = L from by have := mix_all Hlz.out.symm; rwa [List.length_replicate] at this] at h
   exact ⟨.slice (some ⟨w.heap.size, 0, none⟩) k k, _, rfl, h, HB.out⟩
theorem inforg : (Tryz.prog.info? 55).map (fun i => (i.zero, i.size)) = some (some (.agg #[.slice none 0 0]), 1) := by kernel_rfl
theorem make_rg (n : Nat) (hn : n ≤ 2097152) (W : World) : (Instr.makeSlice 32 (.int .i64 (n : Int)) (.int .i64 (n : Int))).run Tryz.prog W =
  .ok (.slice (some ⟨W.heap.size, 0, none⟩) n n) (W.alloc (.cells (madeCells #[.slice none 0 0] (n * 1)) 55)) := by
 obtain ⟨i0, hi, hz0, hz1⟩ : ∃ i0, Tryz.prog.info? 55 = some i0 ∧ i0.zero = some (.agg #[.slice none 0 0]) ∧ i0.size = 1 := by
  have h := inforg
  cases e : Tryz.prog.info? 55 with
  | none => rw [e] at h; simp at h
  | some i => rw [e] at h; simp at h; exact ⟨i, rfl, h.1, h.2⟩
 have hby : i0.bytes ≤ 1000 := by
  have h : (Tryz.prog.info? 55).map (fun i => decide (i.bytes ≤ 1000)) = some true := by kernel_rfl
  rw [hi] at h
  simpa using h
 have hbn : n * i0.bytes ≤ 2097152 * 1000 := Nat.mul_le_mul hn hby
 have hbn2 : i0.bytes * n ≤ 2097152 * 1000 := by rw [Nat.mul_comm]; exact hbn
 have h := run_make (P := Tryz.prog) W 32 55 i0 _ Tryz.underlying32 hi hz0 .i64 .i64 n n (by omega) (by omega) (by omega) (by omega)
 rw [hz1] at h
 simpa [Value.cells] using h
theorem slu_made_rg (W : World) (n : Nat) (hn : n ≤ 2097152) : SlU repRg 55 1 (W.alloc (.cells (madeCells #[.slice none 0 0] (n * 1)) 55)) (List.replicate n ([] : List Rc)) W.heap.size n n (List.replicate n [.slice none 0 0]) (List.replicate n []) := by
 refine ⟨rows_repl (show repRg.R _ ([] : List Rc) [.slice none 0 0] [] from ⟨.slice none 0 0, rfl, ⟨rfl, .inl ⟨rfl, rfl⟩⟩, rfl⟩) n, fun x hx => by rw [List.eq_of_mem_replicate hx]; rfl, ?_, by simp⟩
 refine ⟨by rw [flat_len (s := 1) fun x hx => by rw [List.eq_of_mem_replicate hx]; rfl, List.length_replicate], .inr ⟨W.heap.size, n, _, rfl, Nat.zero_le _, heap_alloc_new W _, Nat.le_refl _, by unfold maxLen; omega, size_madeCells _ _, ?_⟩⟩
 have h := made_rows (zs := [.slice none 0 0]) (n := n) (by simp)
 rw [List.take_of_length_le (by rw [Array.length_toList, size_madeCells]; exact Nat.le_refl _)]
 exact h
def ToGs (L : List (List Rc)) (w : World) (e : Ending) (w' : World) : Prop := ∃ u bs, e = .returned u ∧ repRgs.Own w.heap.size w' L [u] bs ∧ Below w.heap.size w w'
set_option maxHeartbeats 4000000 in
set_option maxRecDepth 10000 in
theorem toGs (L : List (List Rc)) (v : Value) (w : World) (hm : sizGs L ≤ 1048576) (h : wkRgs.R w L [v]) : Calls Tryz.prog 89 #[v] w (ToGs L w) := by
 obtain ⟨⟨A, c, rfl⟩, _⟩ := wkSl_form h
 obtain ⟨n, hn⟩ : ∃ n, n = L.length := ⟨_, rfl⟩
 have hsz := hm
 unfold sizGs at hsz
 rw [← hn] at h hsz ⊢
 have Hn := Lib.hid hn
 have H := Lib.hid h
 have Hl := Lib.hid (show lenGs L ≤ 1048576 by omega)
 have hn2 : n ≤ 1048576 := by omega
 have hmk := fun W => make_rg n (by omega) W
 have hlz : (List.replicate n ([] : List Rc)).length = L.length := by rw [List.length_replicate, hn]
 have Hlz := Lib.hid hlz
 clear h hn hm hsz hlz
 go_enter Tryz.func89, Tryz.ntmps89
 go_wp2_with fail
 go_loopw [4] (fun s4 wr => ∃ (k : Nat) (xs : List (List Value)) (bss : List (List Nat)), k ≤ n ∧ s4 = .int .i64 k ∧ SlU repRg 55 1 wr (mixG L (List.replicate n ([] : List Rc)) k) w.heap.size n n xs bss ∧ Hid (w.heap.size ∉ bss.flatten ∧ bss.flatten.Nodup ∧ ∀ b ∈ bss.flatten, w.heap.size ≤ b) ∧ Hid (Below w.heap.size w wr)) (fun s4 _ => n - (intOf s4).toNat)
 case atStart => exact ⟨0, _, _, Nat.zero_le _, rfl, by rw [mix_zero]; have h := slu_made_rg w n (by omega); rw [Nat.mul_one] at h; exact h, Lib.hid (by simp), Lib.hid ((Below.refl _ _).alloc (Nat.le_refl _) _)⟩
 case round =>
  clear hmk
  obtain ⟨k, xs, bss, hk, rfl, hU, Hnd, HB⟩ := hrel
  by_cases hlt : k < n
  ·obtain ⟨ad, f, ys, rfl, hf, hyl, hR, hC⟩ := wkSl_at (wkRgs.call H.out HB.out) (by omega) (k := k) (by rw [← Hn.out]; exact hlt)
   have hR2 := hR
   obtain ⟨d, rfl, hd⟩ := hR2
   have HZ := Lib.hid (to_rg f d wr hR (by have := lenGs_at hf; have := Hl.out; omega))
   have Hf := Lib.hid hf
   have k0 : (0 : Int) ≤ (k : Int) := by omega
   have k1 : (k : Int) < (n : Int) := by omega
   have c0 := hC.1
   simp only [List.getElem?_cons_zero, Nat.mul_one] at c0
   clear hf hR hd hC hyl
   go_wp2_with fail
   refine HZ.out.mono ?_
   rintro e w1 ⟨u, bsU, rfl, ho, hb⟩
   obtain ⟨Au, cu, hu⟩ := form_rg ho.r
   subst hu
   clear c0
   have hlo1 := hU.lt
   have HRO := Lib.hid (rowsR_ex hU.rr)
   replace hU := hU.call hb
   have HB1 := Lib.hid (belI_call HB.out hb)
   clear hb
   obtain ⟨a0, x, b, ha0, hx, hbk, hxl, hRx, hcx⟩ := hU.at_ hlt
   obtain ⟨v0, hv0⟩ : ∃ v, x[0]? = some v := ⟨_, List.getElem?_eq_getElem (by omega)⟩
   have y0 := hcx 0 _ hv0
   rw [Nat.add_zero, Nat.mul_one] at y0
   have z0 := hU.frozen k
   have hkx : k < xs.length := (List.getElem?_eq_some_iff.1 hx).1
   have hS0 := SetK.zero hU hx
   have hS1 := hS0.put hkx 0 (by omega) (.slice Au f.length cu) rfl
   have hSN : SetK 55 1 w1 (w1.setCell ⟨w.heap.size, k, none⟩ (.slice Au f.length cu)) w.heap.size n n k xs (rgCells f (.slice Au f.length cu)) := by
    have h := hS1
    simp only [Nat.mul_one, Nat.add_zero] at h
    have hx' : x.length = 1 := hxl
    match x, hx' with
    | [q0], _ => exact h
   have Hfin : Hid (∃ xs' bss', SlU repRg 55 1 ((w1.setCell ⟨w.heap.size, k, none⟩ (.slice Au f.length cu))) (mixG L (List.replicate n ([] : List Rc)) (k + 1)) w.heap.size n n xs' bss' ∧ (w.heap.size ∉ bss'.flatten ∧ bss'.flatten.Nodup ∧ ∀ b ∈ bss'.flatten, w.heap.size ≤ b) ∧ Below w.heap.size w ((w1.setCell ⟨w.heap.size, k, none⟩ (.slice Au f.length cu)))) := by
    obtain ⟨n1, n2, n3⟩ := Hnd.out
    have hfresh : ∀ b ∈ bsU, b ∉ bss.flatten := fun b hb hm => by
     have h1 := ho.lo b hb
     have h2 := HRO.out b hm
     omega
    have hch := Chg.of_grown hSN.gr
    have hUn := SlU.upd (a' := f) (b' := bsU) hU hlt hSN.ow hSN.ls (Rep.chg ho.r hch (fun b hb e => by have h7 := ho.lo b hb; have h8 : b = w.heap.size := (by simpa using e); omega)) (fun j d hj hd b hb => hch.block b (by have := rowsR_ex hU.rr b (flat_mem hd hb); exact this) (fun e => n1 (by rw [← show b = w.heap.size by simpa using e]; exact flat_mem hd hb)))
    obtain ⟨m1, m2⟩ := flat_set_nodup n2 hbk ho.nd hfresh
    rw [mix_set Hlz.out.symm Hf.out] at hUn
    refine ⟨_, _, hUn, ⟨fun e => ?_, m1, fun b hb => ?_⟩, HB1.out.grown hSN.gr HB1.out.size (fun q hq => by have := Option.some.inj hq; omega)⟩
    ·rcases m2 _ e with h | h
     ·exact n1 h
     ·have := ho.lo _ h; omega
    ·rcases m2 _ hb with h | h
     ·exact n3 b h
     ·have := ho.lo b h; omega
   clear hS0 hS1 hSN hv0 ho hU hRx hcx ha0 hx hbk
   go_wp2_with fail
   go_roundw
   case rel =>
    obtain ⟨xs', bss', q1, q2, q3⟩ := Hfin.out
    exact ⟨k + 1, xs', bss', by omega, by go_num, q1, Lib.hid q2, Lib.hid q3⟩
   case measure => simp [intOf]; omega
  ·obtain rfl : k = n := by omega
   obtain ⟨n1, n2, n3⟩ := Hnd.out
   have HO := Lib.hid (hU.own (B := w.heap.size) n1 n2 (Nat.le_refl _) n3)
   clear hU
   go_wp2_with fail
   go_ret
   have h := HO.out
   rw [show mixG L (List.replicate k ([] : List Rc)) k = L from by have := mix_all Hlz.out.symm; rwa [List.length_replicate] at this] at h
   exact ⟨.slice (some ⟨w.heap.size, 0, none⟩) k k, _, rfl, h, HB.out⟩
end Go.Proofs.YtnndifemkichmaaGreat
namespace Go.Proofs.YtnndifemkichmaaGreat
open Go.RowKit
structure ToB (w : World) (b : Nat) (cs zs xs : Array Value) (V : World) : Prop where
 a : BkAt V b 50 cs
 z : BkAt V (b + 1) 34 zs
 i : BkAt V (b + 1 + 1) 34 xs
 bw : Below w.heap.size w V
 le : w.heap.size ≤ b
theorem ToB.call {w : World} {b : Nat} {cs zs xs : Array Value} {V V' : World} (h : ToB w b cs zs xs V) (hb : Below V.heap.size V V') : ToB w b cs zs xs V' := ⟨h.a.call hb, h.z.call hb, h.i.call hb, belI_call h.bw hb, h.le⟩
theorem ToB.put {w : World} {b : Nat} {cs zs xs ys : Array Value} {V : World} (h : ToB w b cs zs xs V) (j : Nat) (v : Value) (hy : xs.setIfInBounds j v = ys) : ToB w b cs zs ys (V.setCell ⟨b + 1 + 1, j, none⟩ v) :=
 ⟨h.a.far (by dsimp only; omega) v, h.z.far (by dsimp only; omega) v, h.i.put j v hy, (Chg.setB V (b + 1 + 1) j v [b + 1 + 1] (by simp)).below h.bw h.bw.size (fun k hk => by have := h.le; rw [List.mem_singleton.1 hk]; omega), h.le⟩
theorem ToB.out {w : World} {b : Nat} {cs zs xs ys : Array Value} {V : World} (h : ToB w b cs zs xs V) (j : Nat) (v : Value) (hy : zs.setIfInBounds j v = ys) : ToB w b cs ys xs (V.setCell ⟨b + 1, j, none⟩ v) :=
 ⟨h.a.far (by dsimp only; omega) v, h.z.put j v hy, h.i.far (by dsimp only; omega) v, (Chg.setB V (b + 1) j v [b + 1] (by simp)).below h.bw h.bw.size (fun k hk => by have := h.le; rw [List.mem_singleton.1 hk]; omega), h.le⟩
theorem ToB.keep {α : Type} {E : Rep α} {w : World} {b g B : Nat} {cs zs xs : Array Value} {V : World} (_ : ToB w b cs zs xs V) {a : α} {vs : List Value} {bs : List Nat} (ho : E.Own B V a vs bs) (hB : b + 1 + 1 < B) (hg : g ≤ b + 1 + 1) (j : Nat) (v : Value) : E.Own B (V.setCell ⟨g, j, none⟩ v) a vs bs :=
 ho.chg (Chg.setB V g j v [g] (by simp)) fun k hk e => by have h1 := ho.lo k hk; have h2 := List.mem_singleton.1 e; omega
set_option maxHeartbeats 2000000 in
set_option maxRecDepth 10000 in
theorem to_cn (f : Ch) (a b e d : Value) (w : World) (hr : wkCh.R w f [a, b, e, .int .i64 f.s.w, .int .i64 f.s.h, .int .i64 f.s.back, d]) (hm : sizCh f ≤ 1048576) : Calls Tryz.prog 20 #[.agg #[a, b, e, .int .i64 f.s.w, .int .i64 f.s.h, .int .i64 f.s.back, d]] w fun en w' => ∃ u0 u1 u2 u3 bs, en = .returned (.agg #[u0, u1, u2, .int .i64 f.s.w, .int .i64 f.s.h, .int .i64 f.s.back, u3]) ∧ repCh.Own w.heap.size w' f [u0, u1, u2, .int .i64 f.s.w, .int .i64 f.s.h, .int .i64 f.s.back, u3] bs ∧ Below w.heap.size w w' := by
 have hb0 : Below w.heap.size w (((w.alloc (.cells #[a, b, e, .int .i64 f.s.w, .int .i64 f.s.h, .int .i64 f.s.back, d] 50)).alloc (.cells #[.slice none 0 0, .slice none 0 0, .slice none 0 0, .int .i64 0, .int .i64 0, .int .i64 0, .slice none 0 0] 34)).alloc (.cells #[.slice none 0 0, .slice none 0 0, .slice none 0 0, .int .i64 0, .int .i64 0, .int .i64 0, .slice none 0 0] 34)) := belI_call (belI_call (belI_box _ _) (belI_box _ _)) (belI_box _ _)
 have hS : ToB w w.heap.size #[a, b, e, .int .i64 f.s.w, .int .i64 f.s.h, .int .i64 f.s.back, d] #[.slice none 0 0, .slice none 0 0, .slice none 0 0, .int .i64 0, .int .i64 0, .int .i64 0, .slice none 0 0] #[.slice none 0 0, .slice none 0 0, .slice none 0 0, .int .i64 0, .int .i64 0, .int .i64 0, .slice none 0 0] (((w.alloc (.cells #[a, b, e, .int .i64 f.s.w, .int .i64 f.s.h, .int .i64 f.s.back, d] 50)).alloc (.cells #[.slice none 0 0, .slice none 0 0, .slice none 0 0, .int .i64 0, .int .i64 0, .int .i64 0, .slice none 0 0] 34)).alloc (.cells #[.slice none 0 0, .slice none 0 0, .slice none 0 0, .int .i64 0, .int .i64 0, .int .i64 0, .slice none 0 0] 34)) := ⟨((BkAt.new _ _ _).alloc _).alloc _, (BkAt.newAt (by simp) _ _).alloc _, BkAt.newAt (by simp) _ _, hb0, Nat.le_refl _⟩
 have hsz : w.heap.size + 1 + 1 + 1 ≤ (((w.alloc (.cells #[a, b, e, .int .i64 f.s.w, .int .i64 f.s.h, .int .i64 f.s.back, d] 50)).alloc (.cells #[.slice none 0 0, .slice none 0 0, .slice none 0 0, .int .i64 0, .int .i64 0, .int .i64 0, .slice none 0 0] 34)).alloc (.cells #[.slice none 0 0, .slice none 0 0, .slice none 0 0, .int .i64 0, .int .i64 0, .int .i64 0, .slice none 0 0] 34)).heap.size := by simp
 obtain ⟨V0, hV0⟩ : ∃ W, W = (((w.alloc (.cells #[a, b, e, .int .i64 f.s.w, .int .i64 f.s.h, .int .i64 f.s.back, d] 50)).alloc (.cells #[.slice none 0 0, .slice none 0 0, .slice none 0 0, .int .i64 0, .int .i64 0, .int .i64 0, .slice none 0 0] 34)).alloc (.cells #[.slice none 0 0, .slice none 0 0, .slice none 0 0, .int .i64 0, .int .i64 0, .int .i64 0, .slice none 0 0] 34)) := ⟨_, rfl⟩
 rw [← hV0] at hS hsz
 have HV0 := Lib.hid hV0
 obtain ⟨h1, h2, h3, h4⟩ := wr_cn hr
 have H1 := Lib.hid h1
 have H2 := Lib.hid h2
 have H3 := Lib.hid h3
 have H4 := Lib.hid h4
 obtain ⟨X0, x0, X1, x1, X2, x2, X3, x3, rfl, rfl, rfl, rfl⟩ := wform_cn hr
 unfold sizCh at hm
 have Hm := Lib.hid hm
 have HS := Lib.hid hS
 have Hsz := Lib.hid hsz
 obtain ⟨g, hg⟩ : ∃ g, g = w.heap.size := ⟨_, rfl⟩
 rw [← hg] at HS Hsz
 have Hg := Lib.hid hg
 clear hr h1 h2 h3 h4 hV0 hb0 hS hm hsz hg
 go_enter Tryz.func20, Tryz.ntmps20
 go_wp2_with fail
 rw [← HV0.out, ← Hg.out]
 refine (toIs f.ims _ _ (by have := Hm.out; omega) (wkIms.call H1.out HS.out.bw)).mono ?_
 rintro en w1 ⟨u0, bs0, rfl, o0, hb⟩
 obtain ⟨A0, c0, hu0⟩ := (form_lIs o0.r).1
 subst hu0
 have hS := HS.out.call hb
 have hsz0 := Nat.le_trans Hsz.out hb.size
 have hsb := hb.size
 clear hb HS
 have a0 := hS.a.cell 0 rfl
 have a1 := hS.a.cell 1 rfl
 have a2 := hS.a.cell 2 rfl
 have a3 := hS.a.cell 3 rfl
 have a4 := hS.a.cell 4 rfl
 have a5 := hS.a.cell 5 rfl
 have a6 := hS.a.cell 6 rfl
 have i0 := hS.i.cell 0 rfl
 have fi0 := hS.i.frozen 0
 have i1 := hS.i.cell 1 rfl
 have fi1 := hS.i.frozen 1
 have i2 := hS.i.cell 2 rfl
 have fi2 := hS.i.frozen 2
 have i3 := hS.i.cell 3 rfl
 have fi3 := hS.i.frozen 3
 have i4 := hS.i.cell 4 rfl
 have fi4 := hS.i.frozen 4
 have i5 := hS.i.cell 5 rfl
 have fi5 := hS.i.frozen 5
 have i6 := hS.i.cell 6 rfl
 have fi6 := hS.i.frozen 6
 go_wp2_with fail
 clear a0 i0 fi0 a1 i1 fi1 a2 i2 fi2 a3 i3 fi3 a4 i4 fi4 a5 i5 fi5 a6 i6 fi6
 obtain ⟨V1, hV⟩ : ∃ W, W = w1.setCell ⟨g + 1 + 1, 0, none⟩ (Value.slice A0 f.ims.length c0) := ⟨_, rfl⟩
 rw [← hV]
 have hT := hS.put (ys := #[Value.slice A0 f.ims.length c0, .slice none 0 0, .slice none 0 0, .int .i64 0, .int .i64 0, .int .i64 0, .slice none 0 0]) 0 (Value.slice A0 f.ims.length c0) rfl
 replace o0 := hS.keep o0 (by have := Hsz.out; omega) (Nat.le_refl _) 0 (Value.slice A0 f.ims.length c0)
 replace hsz0 : g + 1 + 1 + 1 ≤ V1.heap.size := by rw [hV]; simpa using hsz0
 rw [← hV] at hT o0
 have mo0 : Hid (V0.heap.size ≤ V1.heap.size) := Lib.hid (by rw [hV]; simpa using hsb)
 have lt0 := Lib.hid (repIms.ex o0.r)
 have HS := Lib.hid hT
 clear hT hS hV hsb
 refine (toIO _ f.ages _ (by have := Hm.out; omega) (wints_rd (wkInts.call H2.out HS.out.bw))).mono ?_
 rintro en w2 ⟨u1, rfl, o1, hb⟩
 have o1 := repInts_own o1
 obtain ⟨bs1, hbs1⟩ : ∃ b, b = u1.ownBlock.toList := ⟨_, rfl⟩
 rw [← hbs1] at o1
 clear hbs1
 obtain ⟨A1, c1, hu1⟩ := (ints_form o1.r).1
 subst hu1
 have hS := HS.out.call hb
 have hsz1 := Nat.le_trans hsz0 hb.size
 replace o0 := o0.call hb
 have hsb := hb.size
 clear hb HS
 have a0 := hS.a.cell 0 rfl
 have a1 := hS.a.cell 1 rfl
 have a2 := hS.a.cell 2 rfl
 have a3 := hS.a.cell 3 rfl
 have a4 := hS.a.cell 4 rfl
 have a5 := hS.a.cell 5 rfl
 have a6 := hS.a.cell 6 rfl
 have i0 := hS.i.cell 0 rfl
 have fi0 := hS.i.frozen 0
 have i1 := hS.i.cell 1 rfl
 have fi1 := hS.i.frozen 1
 have i2 := hS.i.cell 2 rfl
 have fi2 := hS.i.frozen 2
 have i3 := hS.i.cell 3 rfl
 have fi3 := hS.i.frozen 3
 have i4 := hS.i.cell 4 rfl
 have fi4 := hS.i.frozen 4
 have i5 := hS.i.cell 5 rfl
 have fi5 := hS.i.frozen 5
 have i6 := hS.i.cell 6 rfl
 have fi6 := hS.i.frozen 6
 go_wp2_with fail
 clear a0 i0 fi0 a1 i1 fi1 a2 i2 fi2 a3 i3 fi3 a4 i4 fi4 a5 i5 fi5 a6 i6 fi6
 obtain ⟨V2, hV⟩ : ∃ W, W = w2.setCell ⟨g + 1 + 1, 1, none⟩ (Value.slice A1 f.ages.length c1) := ⟨_, rfl⟩
 rw [← hV]
 have hT := hS.put (ys := #[Value.slice A0 f.ims.length c0, Value.slice A1 f.ages.length c1, .slice none 0 0, .int .i64 0, .int .i64 0, .int .i64 0, .slice none 0 0]) 1 (Value.slice A1 f.ages.length c1) rfl
 replace o0 := hS.keep o0 (by have := Hsz.out; omega) (Nat.le_refl _) 1 (Value.slice A1 f.ages.length c1)
 replace o1 := hS.keep o1 (by omega) (Nat.le_refl _) 1 (Value.slice A1 f.ages.length c1)
 replace hsz1 : g + 1 + 1 + 1 ≤ V2.heap.size := by rw [hV]; simpa using hsz1
 rw [← hV] at hT o0 o1
 have mo1 : Hid (V1.heap.size ≤ V2.heap.size) := Lib.hid (by rw [hV]; simpa using hsb)
 have lt1 := Lib.hid (repInts.ex o1.r)
 have HS := Lib.hid hT
 clear hT hS hV hsb
 refine (toGs f.rgs _ _ (by have := Hm.out; omega) (wkRgs.call H3.out HS.out.bw)).mono ?_
 rintro en w3 ⟨u2, bs2, rfl, o2, hb⟩
 obtain ⟨A2, c2, hu2⟩ := (form_lGs o2.r).1
 subst hu2
 have hS := HS.out.call hb
 have hsz2 := Nat.le_trans hsz1 hb.size
 replace o0 := o0.call hb
 replace o1 := o1.call hb
 have hsb := hb.size
 clear hb HS
 have a0 := hS.a.cell 0 rfl
 have a1 := hS.a.cell 1 rfl
 have a2 := hS.a.cell 2 rfl
 have a3 := hS.a.cell 3 rfl
 have a4 := hS.a.cell 4 rfl
 have a5 := hS.a.cell 5 rfl
 have a6 := hS.a.cell 6 rfl
 have i0 := hS.i.cell 0 rfl
 have fi0 := hS.i.frozen 0
 have i1 := hS.i.cell 1 rfl
 have fi1 := hS.i.frozen 1
 have i2 := hS.i.cell 2 rfl
 have fi2 := hS.i.frozen 2
 have i3 := hS.i.cell 3 rfl
 have fi3 := hS.i.frozen 3
 have i4 := hS.i.cell 4 rfl
 have fi4 := hS.i.frozen 4
 have i5 := hS.i.cell 5 rfl
 have fi5 := hS.i.frozen 5
 have i6 := hS.i.cell 6 rfl
 have fi6 := hS.i.frozen 6
 go_wp2_with fail
 clear a0 i0 fi0 a1 i1 fi1 a2 i2 fi2 a3 i3 fi3 a4 i4 fi4 a5 i5 fi5 a6 i6 fi6
 obtain ⟨V3, hV⟩ : ∃ W, W = w3.setCell ⟨g + 1 + 1, 2, none⟩ (Value.slice A2 f.rgs.length c2) := ⟨_, rfl⟩
 rw [← hV]
 have hT := hS.put (ys := #[Value.slice A0 f.ims.length c0, Value.slice A1 f.ages.length c1, Value.slice A2 f.rgs.length c2, .int .i64 0, .int .i64 0, .int .i64 0, .slice none 0 0]) 2 (Value.slice A2 f.rgs.length c2) rfl
 replace o0 := hS.keep o0 (by have := Hsz.out; omega) (Nat.le_refl _) 2 (Value.slice A2 f.rgs.length c2)
 replace o1 := hS.keep o1 (by omega) (Nat.le_refl _) 2 (Value.slice A2 f.rgs.length c2)
 replace o2 := hS.keep o2 (by omega) (Nat.le_refl _) 2 (Value.slice A2 f.rgs.length c2)
 replace hsz2 : g + 1 + 1 + 1 ≤ V3.heap.size := by rw [hV]; simpa using hsz2
 rw [← hV] at hT o0 o1 o2
 have mo2 : Hid (V2.heap.size ≤ V3.heap.size) := Lib.hid (by rw [hV]; simpa using hsb)
 have lt2 := Lib.hid (repRgs.ex o2.r)
 have HS := Lib.hid hT
 clear hT hS hV hsb
 refine (to_sn f.s _ _ ⟨_, rfl, wkSfs.call H4.out HS.out.bw⟩ (by have := Hm.out; omega)).mono ?_
 rintro en w4 ⟨u3, bs3, rfl, o3, hb⟩
 obtain ⟨A3, c3, hu3⟩ := form_sn o3.r
 subst hu3
 have o3 := own_sn o3
 have hS := HS.out.call hb
 have hsz3 := Nat.le_trans hsz2 hb.size
 replace o0 := o0.call hb
 replace o1 := o1.call hb
 replace o2 := o2.call hb
 have hsb := hb.size
 clear hb HS
 have a0 := hS.a.cell 0 rfl
 have a1 := hS.a.cell 1 rfl
 have a2 := hS.a.cell 2 rfl
 have a3 := hS.a.cell 3 rfl
 have a4 := hS.a.cell 4 rfl
 have a5 := hS.a.cell 5 rfl
 have a6 := hS.a.cell 6 rfl
 have i0 := hS.i.cell 0 rfl
 have fi0 := hS.i.frozen 0
 have z0 := hS.z.cell 0 rfl
 have fz0 := hS.z.frozen 0
 have i1 := hS.i.cell 1 rfl
 have fi1 := hS.i.frozen 1
 have z1 := hS.z.cell 1 rfl
 have fz1 := hS.z.frozen 1
 have i2 := hS.i.cell 2 rfl
 have fi2 := hS.i.frozen 2
 have z2 := hS.z.cell 2 rfl
 have fz2 := hS.z.frozen 2
 have i3 := hS.i.cell 3 rfl
 have fi3 := hS.i.frozen 3
 have z3 := hS.z.cell 3 rfl
 have fz3 := hS.z.frozen 3
 have i4 := hS.i.cell 4 rfl
 have fi4 := hS.i.frozen 4
 have z4 := hS.z.cell 4 rfl
 have fz4 := hS.z.frozen 4
 have i5 := hS.i.cell 5 rfl
 have fi5 := hS.i.frozen 5
 have z5 := hS.z.cell 5 rfl
 have fz5 := hS.z.frozen 5
 have i6 := hS.i.cell 6 rfl
 have fi6 := hS.i.frozen 6
 have z6 := hS.z.cell 6 rfl
 have fz6 := hS.z.frozen 6
 have HS := Lib.hid hS
 have HO := Lib.hid (And.intro o0 (And.intro o1 (And.intro o2 o3)))
 have Hz := Lib.hid (And.intro hsz0 (And.intro hsz1 hsz2))
 clear hS o0 o1 o2 o3 hsz0 hsz1 hsz2 hsz3
 go_wp2_with fail
 have t0 := HS.out
 have t1 := t0.put (ys := #[Value.slice A0 f.ims.length c0, Value.slice A1 f.ages.length c1, Value.slice A2 f.rgs.length c2, Value.int .i64 f.s.w, .int .i64 0, .int .i64 0, .slice none 0 0]) 3 (Value.int .i64 f.s.w) rfl
 have t2 := t1.put (ys := #[Value.slice A0 f.ims.length c0, Value.slice A1 f.ages.length c1, Value.slice A2 f.rgs.length c2, Value.int .i64 f.s.w, Value.int .i64 f.s.h, .int .i64 0, .slice none 0 0]) 4 (Value.int .i64 f.s.h) rfl
 have t3 := t2.put (ys := #[Value.slice A0 f.ims.length c0, Value.slice A1 f.ages.length c1, Value.slice A2 f.rgs.length c2, Value.int .i64 f.s.w, Value.int .i64 f.s.h, Value.int .i64 f.s.back, .slice none 0 0]) 5 (Value.int .i64 f.s.back) rfl
 have t4 := t3.put (ys := #[Value.slice A0 f.ims.length c0, Value.slice A1 f.ages.length c1, Value.slice A2 f.rgs.length c2, Value.int .i64 f.s.w, Value.int .i64 f.s.h, Value.int .i64 f.s.back, Value.slice A3 f.s.fs.length c3]) 6 (Value.slice A3 f.s.fs.length c3) rfl
 have t5 := t4.out (ys := #[Value.slice A0 f.ims.length c0, .slice none 0 0, .slice none 0 0, .int .i64 0, .int .i64 0, .int .i64 0, .slice none 0 0]) 0 (Value.slice A0 f.ims.length c0) rfl
 have t6 := t5.out (ys := #[Value.slice A0 f.ims.length c0, Value.slice A1 f.ages.length c1, .slice none 0 0, .int .i64 0, .int .i64 0, .int .i64 0, .slice none 0 0]) 1 (Value.slice A1 f.ages.length c1) rfl
 have t7 := t6.out (ys := #[Value.slice A0 f.ims.length c0, Value.slice A1 f.ages.length c1, Value.slice A2 f.rgs.length c2, .int .i64 0, .int .i64 0, .int .i64 0, .slice none 0 0]) 2 (Value.slice A2 f.rgs.length c2) rfl
 have t8 := t7.out (ys := #[Value.slice A0 f.ims.length c0, Value.slice A1 f.ages.length c1, Value.slice A2 f.rgs.length c2, Value.int .i64 f.s.w, .int .i64 0, .int .i64 0, .slice none 0 0]) 3 (Value.int .i64 f.s.w) rfl
 have t9 := t8.out (ys := #[Value.slice A0 f.ims.length c0, Value.slice A1 f.ages.length c1, Value.slice A2 f.rgs.length c2, Value.int .i64 f.s.w, Value.int .i64 f.s.h, .int .i64 0, .slice none 0 0]) 4 (Value.int .i64 f.s.h) rfl
 have t10 := t9.out (ys := #[Value.slice A0 f.ims.length c0, Value.slice A1 f.ages.length c1, Value.slice A2 f.rgs.length c2, Value.int .i64 f.s.w, Value.int .i64 f.s.h, Value.int .i64 f.s.back, .slice none 0 0]) 5 (Value.int .i64 f.s.back) rfl
 have t11 := t10.out (ys := #[Value.slice A0 f.ims.length c0, Value.slice A1 f.ages.length c1, Value.slice A2 f.rgs.length c2, Value.int .i64 f.s.w, Value.int .i64 f.s.h, Value.int .i64 f.s.back, Value.slice A3 f.s.fs.length c3]) 6 (Value.slice A3 f.s.fs.length c3) rfl
 have hC := (((((((((((Chg.setB w4 (g + 1 + 1) 3 (Value.int .i64 f.s.w) [g + 1, g + 1 + 1] (by simp)).trans (Chg.setB _ (g + 1 + 1) 4 (Value.int .i64 f.s.h) [g + 1, g + 1 + 1] (by simp))).trans (Chg.setB _ (g + 1 + 1) 5 (Value.int .i64 f.s.back) [g + 1, g + 1 + 1] (by simp))).trans (Chg.setB _ (g + 1 + 1) 6 (Value.slice A3 f.s.fs.length c3) [g + 1, g + 1 + 1] (by simp))).trans (Chg.setB _ (g + 1) 0 (Value.slice A0 f.ims.length c0) [g + 1, g + 1 + 1] (by simp))).trans (Chg.setB _ (g + 1) 1 (Value.slice A1 f.ages.length c1) [g + 1, g + 1 + 1] (by simp))).trans (Chg.setB _ (g + 1) 2 (Value.slice A2 f.rgs.length c2) [g + 1, g + 1 + 1] (by simp))).trans (Chg.setB _ (g + 1) 3 (Value.int .i64 f.s.w) [g + 1, g + 1 + 1] (by simp))).trans (Chg.setB _ (g + 1) 4 (Value.int .i64 f.s.h) [g + 1, g + 1 + 1] (by simp))).trans (Chg.setB _ (g + 1) 5 (Value.int .i64 f.s.back) [g + 1, g + 1 + 1] (by simp))).trans (Chg.setB _ (g + 1) 6 (Value.slice A3 f.s.fs.length c3) [g + 1, g + 1 + 1] (by simp)))
 have x0 := t11.z.cell 0 rfl
 have x1 := t11.z.cell 1 rfl
 have x2 := t11.z.cell 2 rfl
 have x3 := t11.z.cell 3 rfl
 have x4 := t11.z.cell 4 rfl
 have x5 := t11.z.cell 5 rfl
 have x6 := t11.z.cell 6 rfl
 obtain ⟨o0, o1, o2, o3⟩ := HO.out
 obtain ⟨z0, z1, z2⟩ := Hz.out
 have hl := HS.out.le
 have p0 := o0.chg hC (fun k hk e => by have h1 := o0.lo k hk; have h2 := Hsz.out; rcases mem2 e with h3 | h3 <;> omega)
 have p1 := o1.chg hC (fun k hk e => by have h1 := o1.lo k hk; rcases mem2 e with h3 | h3 <;> omega)
 have p2 := o2.chg hC (fun k hk e => by have h1 := o2.lo k hk; rcases mem2 e with h3 | h3 <;> omega)
 have p3 := o3.chg hC (fun k hk e => by have h1 := o3.lo k hk; rcases mem2 e with h3 | h3 <;> omega)
 have ll0 := lt0.out
 have ll1 := lt1.out
 have ll2 := lt2.out
 have m1 := mo1.out
 have m2 := mo2.out
 have hown : CnOwn w.heap.size _ f _ _ _ _ bs0 bs1 bs2 bs3 := ⟨p0.mono (by have := Hsz.out; omega), p1.mono (by omega), p2.mono (by omega), p3.mono (by omega),
  fun k h h' => by have := ll0 k h; have := o1.lo k h'; omega, fun k h h' => by have := ll0 k h; have := o2.lo k h'; omega, fun k h h' => by have := ll0 k h; have := o3.lo k h'; omega,
  fun k h h' => by have := ll1 k h; have := o2.lo k h'; omega, fun k h h' => by have := ll1 k h; have := o3.lo k h'; omega, fun k h h' => by have := ll2 k h; have := o3.lo k h'; omega⟩
 exact bodyPost_ret (v := .agg #[Value.slice A0 f.ims.length c0, Value.slice A1 f.ages.length c1, Value.slice A2 f.rgs.length c2, Value.int .i64 f.s.w, Value.int .i64 f.s.h, Value.int .i64 f.s.back, Value.slice A3 f.s.fs.length c3]) (by simp [results, Tryz.results20, go_sem, x0, x1, x2, x3, x4, x5, x6]) rfl ⟨_, _, _, _, _, rfl, hown.rep, t11.bw⟩
end Go.Proofs.YtnndifemkichmaaGreat
namespace Go.Proofs.YtnndifemkichmaaGreat
open Go.RowKit
set_option maxHeartbeats 1000000 in
set_option maxRecDepth 10000 in
theorem fstII (L : List Int) (v : Value) (x : Int) (w : World) (h : RdI w v L) : Calls Tryz.prog 109 #[v, .int .i64 x] w fun e w' => e = .returned (.int .i64 (fstI L x)) ∧ w' = w := by
 have hm := h.len
 obtain ⟨A, c, rfl⟩ := h.form
 obtain ⟨n, hn⟩ : ∃ n, n = L.length := ⟨_, rfl⟩
 rw [← hn] at h hm ⊢
 unfold maxLen at hm
 have Hn := Lib.hid hn
 have HR := Lib.hid h
 clear h hn
 go_enter Tryz.func109, Tryz.ntmps109
 go_wp2_with fail
 go_loopw [5, 8] (fun s5 s8 wr => ∃ k : Nat, k ≤ n ∧ s8 = .int .i64 k ∧ Hid (∀ j : Nat, j < k → L[j]? ≠ some x) ∧ wr = w) (fun _ s8 _ => n - (intOf s8).toNat)
 case atStart => exact ⟨0, Nat.zero_le _, rfl, Lib.hid (fun j hj => by omega), rfl⟩
 case round =>
  obtain ⟨k, hk, rfl, Hall, rfl⟩ := hrel
  by_cases hlt : k < n
  ·obtain ⟨g, y, rfl, hy, hc⟩ := HR.out.at_ (k := k) (by rw [← Hn.out]; exact hlt)
   have Hy := Lib.hid hy
   have k0 : (0 : Int) ≤ (k : Int) := by omega
   have k1 : (k : Int) < (n : Int) := by omega
   clear hy
   by_cases he : x = y
   ·have hf : Hid (fstI L x = (k : Int)) := Lib.hid (fstI_hit (by rw [Hy.out, he]) Hall.out)
    subst he
    go_wp2_with fail
    go_ret
    exact ⟨ret_int hf.out.symm, rfl⟩
   ·have hb : (x == y) = false := by simpa using he
    have hall : Hid (∀ j : Nat, j < k + 1 → L[j]? ≠ some x) := Lib.hid fun j hj e => by
     by_cases hjk : j < k
     ·exact Hall.out j hjk e
     ·obtain rfl : j = k := by omega
      rw [Hy.out] at e
      exact he (Option.some.inj e).symm
    go_wp2_with fail
    go_roundw
    case rel => exact ⟨k + 1, by omega, by go_num, hall, by first | rfl | trivial⟩
    case measure => simp [intOf]; omega
  ·obtain rfl : k = n := by omega
   have hf : Hid (fstI L x = -1) := Lib.hid (fstI_miss fun j e => Hall.out j (by rw [Hn.out]; exact (List.getElem?_eq_some_iff.1 e).1) e)
   go_wp2_with fail
   go_ret
   exact ⟨ret_int hf.out.symm, rfl⟩
set_option maxHeartbeats 600000 in
theorem grI (A : Option Addr) (n c : Nat) (w : World) (hn : n ≤ 1000) : Calls Tryz.prog 74 #[.slice A n c] w fun e w' => e = .returned (.int .i64 (grA n)) ∧ w' = w := by
 go_enter Tryz.func74, Tryz.ntmps74
 go_wp2_with fail
 all_goals (go_ret; exact ⟨ret_int (by unfold grA; split <;> omega), rfl⟩)
set_option maxHeartbeats 1000000 in
set_option maxRecDepth 10000 in
theorem agesI (L : List Int) (v : Value) (m : Int) (w : World) (h : RdI w v L) : Calls Tryz.prog 77 #[v, .int .i64 m] w fun e w' => e = .returned (.bool (agesB L m)) ∧ w' = w := by
 have hm := h.len
 obtain ⟨A, c, rfl⟩ := h.form
 obtain ⟨n, hn⟩ : ∃ n, n = L.length := ⟨_, rfl⟩
 have HI := Lib.hid (fun x => fstII L _ x w h)
 rw [← hn] at h hm HI ⊢
 unfold maxLen at hm
 have Hn := Lib.hid hn
 have HR := Lib.hid h
 clear h hn
 go_enter Tryz.func77, Tryz.ntmps77
 go_wp2_with fail
 go_loopw [5, 6, 9] (fun s5 s6 s9 wr => ∃ k : Nat, k ≤ n ∧ s9 = .int .i64 k ∧ Hid (∀ (j : Nat) (x : Int), j < k → L[j]? = some x → ageAt L m j x) ∧ wr = w) (fun _ _ s9 _ => n - (intOf s9).toNat)
 case atStart => exact ⟨0, Nat.zero_le _, rfl, Lib.hid (fun j x hj => by omega), rfl⟩
 case round =>
  obtain ⟨k, hk, rfl, Hall, rfl⟩ := hrel
  by_cases hlt : k < n
  ·obtain ⟨g, x, rfl, hx, hc⟩ := HR.out.at_ (k := k) (by rw [← Hn.out]; exact hlt)
   have Hx := Lib.hid hx
   have k0 : (0 : Int) ≤ (k : Int) := by omega
   have k1 : (k : Int) < (n : Int) := by omega
   have HA := Lib.hid (age_first (A := L) (m := m) hx)
   have HN : Hid (¬ ageAt L m k x → agesB L m = false) := Lib.hid fun h1 => agesB_no fun h2 => h1 (h2 k x Hx.out)
   have HY : Hid (ageAt L m k x → ∀ (j : Nat) (x : Int), j < k + 1 → L[j]? = some x → ageAt L m j x) := Lib.hid fun h1 j y hj hy => by
    by_cases hjk : j < k
    ·exact Hall.out j y hjk hy
    ·obtain rfl : j = k := by omega
     rw [Hx.out] at hy
     rw [← Option.some.inj hy]
     exact h1
   clear hx
   by_cases h1 : 0 ≤ x ∧ x ≤ m
   rotate_left
   ·have hno := Lib.hid (HN.out fun h => h1 h.1)
    have h1' : x < 0 ∨ m < x := by omega
    go_wp2_with fail
    refine (inI_no _ _ _ _ h1').mono ?_
    rintro e w1 ⟨rfl, rfl⟩
    go_wp2_with fail
    go_ret
    exact ⟨ret_bool hno.out.symm, rfl⟩
   have H1 := Lib.hid h1
   clear h1
   by_cases h2 : x = 0
   ·subst h2
    have hyes := Lib.hid (HY.out (HA.out.2 ⟨H1.out, .inl rfl⟩))
    go_wp2_with fail
    refine (inI_yes _ _ _ _ H1.out.1 H1.out.2).mono ?_
    rintro e w1 ⟨rfl, rfl⟩
    go_wp2_with fail
    go_roundw
    case rel => exact ⟨k + 1, by omega, by go_num, hyes, by first | rfl | trivial⟩
    case measure => simp [intOf]; omega
   have h2c : (x != 0) = true := by simpa using h2
   obtain ⟨q, hq⟩ : ∃ q, q = fstI L x := ⟨_, rfl⟩
   have HQ := Lib.hid (HI.out x)
   rw [← hq] at HQ
   by_cases h3 : q = (k : Int)
   ·have hyes := Lib.hid (HY.out (HA.out.2 ⟨H1.out, .inr (hq.symm.trans h3)⟩))
    subst h3
    clear hq
    go_wp2_with fail
    refine (inI_yes _ _ _ _ H1.out.1 H1.out.2).mono ?_
    rintro e w1 ⟨rfl, rfl⟩
    go_wp2_with fail
    refine HQ.out.mono ?_
    rintro e w1 ⟨rfl, rfl⟩
    go_wp2_with fail
    go_roundw
    case rel => exact ⟨k + 1, by omega, by go_num, hyes, by first | rfl | trivial⟩
    case measure => simp [intOf]; omega
   ·have hno := Lib.hid (HN.out fun h => by
     rcases (HA.out.1 h).2 with h | h
     ·exact h2 h
     ·exact h3 (hq.trans h))
    have h3c : (q != (k : Int)) = true := by simpa using h3
    clear hq
    go_wp2_with fail
    refine (inI_yes _ _ _ _ H1.out.1 H1.out.2).mono ?_
    rintro e w1 ⟨rfl, rfl⟩
    go_wp2_with fail
    refine HQ.out.mono ?_
    rintro e w1 ⟨rfl, rfl⟩
    go_wp2_with fail
    go_ret
    exact ⟨ret_bool hno.out.symm, rfl⟩
  ·obtain rfl : k = n := by omega
   have hy := Lib.hid (agesB_yes (A := L) (m := m) fun j x hj => Hall.out j x (by rw [Hn.out]; exact (List.getElem?_eq_some_iff.1 hj).1) hj)
   go_wp2_with fail
   go_ret
   exact ⟨ret_bool hy.out.symm, rfl⟩
set_option maxHeartbeats 1000000 in
set_option maxRecDepth 10000 in
theorem dmsI (L : List (List Rc)) (v : Value) (bs : List Nat) (w : World) (h : repRgs.R w L [v] bs) : Calls Tryz.prog 76 #[v] w fun e w' => e = .returned (.bool (dmsB L)) ∧ Below w.heap.size w w' := by
 obtain ⟨⟨A, c, rfl⟩, hm⟩ := form_lGs h
 obtain ⟨n, hn⟩ : ∃ n, n = L.length := ⟨_, rfl⟩
 rw [← hn] at h hm ⊢
 unfold maxLen at hm
 have Hn := Lib.hid hn
 have HR := Lib.hid h
 clear h hn
 by_cases h3 : n ≤ 3
 rotate_left
 ·have hno := Lib.hid (dmsB_no fun h : dmsP L => h3 (by rw [Hn.out]; exact h.1))
  go_enter Tryz.func76, Tryz.ntmps76
  go_wp2_with fail
  go_ret
  exact ⟨ret_bool hno.out.symm, Below.refl _ _⟩
 go_enter Tryz.func76, Tryz.ntmps76
 go_wp2_with fail
 go_loopw [4, 10] (fun s4 s10 wr => ∃ k : Nat, k ≤ n ∧ s10 = .int .i64 k ∧ Hid (∀ (j : Nat) (r : List Rc), j < k → L[j]? = some r → okL r = true) ∧ Hid (Below w.heap.size w wr)) (fun _ s10 _ => n - (intOf s10).toNat)
 case atStart => exact ⟨0, Nat.zero_le _, rfl, Lib.hid (fun j x hj => by omega), Lib.hid (Below.refl _ _)⟩
 case round =>
  obtain ⟨k, hk, rfl, Hall, HB⟩ := hrel
  by_cases hlt : k < n
  ·obtain ⟨g, f, d, b, rfl, hf, hR, hC⟩ := at_lGs (Rep.call HR.out HB.out) (k := k) (by rw [← Hn.out]; exact hlt)
   have Hf := Lib.hid hf
   have c0 := hC 0 _ rfl
   rw [Nat.add_zero, Nat.mul_one] at c0
   have hd := r_rg hR
   obtain ⟨A', c', rfl⟩ := hd.form
   have k0 : (0 : Int) ≤ (k : Int) := by omega
   have k1 : (k : Int) < (n : Int) := by omega
   have hb0 := belI_box wr (.cells #[.slice A' f.length c'] 55)
   have HB1 := Lib.hid (belI_call HB.out hb0)
   have HK := Lib.hid (rokI _ f _ (hd.call hb0))
   unfold RokAns at HK
   clear hf hR hC hb0 hd
   by_cases ho : okL f = true
   ·rw [ho] at HK
    have hyes : Hid (∀ (j : Nat) (r : List Rc), j < k + 1 → L[j]? = some r → okL r = true) := Lib.hid fun j y hj hy => by
     by_cases hjk : j < k
     ·exact Hall.out j y hjk hy
     ·obtain rfl : j = k := by omega
      rw [Hf.out] at hy
      rw [← Option.some.inj hy]
      exact ho
    clear ho
    go_wp2_with fail
    refine HK.out.mono ?_
    rintro e w2 ⟨rfl, hb⟩
    have HB2 := Lib.hid (belI_call HB1.out hb)
    clear c0 hb
    go_wp2_with fail
    go_roundw
    case rel => exact ⟨k + 1, by omega, by go_num, hyes, HB2⟩
    case measure => simp [intOf]; omega
   ·have hno := Lib.hid (dmsB_no fun h : dmsP L => ho (h.2 k f Hf.out))
    rw [show okL f = false by simpa using ho] at HK
    clear ho
    go_wp2_with fail
    refine HK.out.mono ?_
    rintro e w2 ⟨rfl, hb⟩
    have HB2 := Lib.hid (belI_call HB1.out hb)
    clear c0 hb
    go_wp2_with fail
    go_ret
    exact ⟨ret_bool hno.out.symm, HB2.out⟩
  ·obtain rfl : k = n := by omega
   have hy := Lib.hid (dmsB_yes (L := L) ⟨by rw [← Hn.out]; exact h3, fun j x hj => Hall.out j x (by rw [Hn.out]; exact (List.getElem?_eq_some_iff.1 hj).1) hj⟩)
   go_wp2_with fail
   go_ret
   exact ⟨ret_bool hy.out.symm, HB.out⟩
set_option maxHeartbeats 1000000 in
set_option maxRecDepth 10000 in
theorem bufI (s : Sn) (u : Value) (L : List Im) (v : Value) (bs cs : List Nat) (w : World) (hs : repSfs.R w s.fs [u] cs) (h : repIms.R w L [v] bs) : Calls Tryz.prog 75 #[.agg #[.int .i64 s.w, .int .i64 s.h, .int .i64 s.back, u], v] w fun e w' => e = .returned (.bool (bufB s.w s.h L)) ∧ Below w.heap.size w w' := by
 have hA := SnA.born hs
 have hB := belI_box w (.cells #[.int .i64 s.w, .int .i64 s.h, .int .i64 s.back, u] 26)
 obtain ⟨⟨A', c', rfl⟩, _⟩ := repSfs_form hs
 have h := Rep.call h hB
 obtain ⟨⟨A, c, rfl⟩, hm⟩ := form_lIs h
 obtain ⟨n, hn⟩ : ∃ n, n = L.length := ⟨_, rfl⟩
 rw [← hn] at h hm ⊢
 unfold maxLen at hm
 have Hn := Lib.hid hn
 have HR := Lib.hid h
 have HB := Lib.hid hB
 clear h hn hs hB
 by_cases h3 : 1 ≤ n ∧ n ≤ 3
 rotate_left
 ·have hno := Lib.hid (bufB_no fun h : bufP s.w s.h L => h3 (by rw [Hn.out]; exact h.1))
  have h3' : (n : Int) < 1 ∨ 3 < (n : Int) := by omega
  go_enter Tryz.func75, Tryz.ntmps75
  go_wp2_with fail
  refine (inI_no _ _ _ _ h3').mono ?_
  rintro e w1 ⟨rfl, rfl⟩
  go_wp2_with fail
  go_ret
  exact ⟨ret_bool hno.out.symm, HB.out⟩
 obtain ⟨W0, hW0⟩ : ∃ W, W = w.alloc (.cells #[.int .i64 s.w, .int .i64 s.h, .int .i64 s.back, .slice A' s.fs.length c'] 26) := ⟨_, rfl⟩
 rw [← hW0] at hA HR HB
 have HW := Lib.hid hW0
 have HA0 := Lib.hid hA
 clear hW0 hA
 go_enter Tryz.func75, Tryz.ntmps75
 go_wp2_with fail
 rw [← HW.out]
 refine (inI_yes _ _ _ _ (by omega) (by omega)).mono ?_
 rintro e w1 ⟨rfl, rfl⟩
 go_wp2_with fail
 go_loopw [6, 13] (fun s6 s13 wr => ∃ k : Nat, k ≤ n ∧ s13 = .int .i64 k ∧ Hid (∀ (j : Nat) (f : Im), j < k → L[j]? = some f → bufAt s.w s.h f) ∧ Hid (Below W0.heap.size W0 wr)) (fun _ s13 _ => n - (intOf s13).toNat)
 case atStart => exact ⟨0, Nat.zero_le _, rfl, Lib.hid (fun j x hj => by omega), Lib.hid (Below.refl _ _)⟩
 case round =>
  obtain ⟨k, hk, rfl, Hall, HK⟩ := hrel
  by_cases hlt : k < n
  ·obtain ⟨g, f, d, b, rfl, hf, hR, hC⟩ := at_lIs (Rep.call HR.out HK.out) (k := k) (by rw [← Hn.out]; exact hlt)
   have Hf := Lib.hid hf
   have hA := HA0.out.call HK.out
   have c0 := hC 0 _ rfl
   rw [Nat.add_zero] at c0
   have c1 := hC 1 _ rfl
   have c2 := hC 2 _ rfl
   have hd := repInts_rd (r_im hR)
   obtain ⟨A2, c3, rfl⟩ := hd.form
   have k0 : (0 : Int) ≤ (k : Int) := by omega
   have k1 : (k : Int) < (n : Int) := by omega
   have hb0 := belI_box wr (.cells #[.int .i64 f.w, .int .i64 f.h, .slice A2 f.d.length c3] 70)
   have HB1 := Lib.hid (belI_call HB.out (belI_call HK.out hb0))
   have HK1 := Lib.hid (belI_call HK.out hb0)
   have HI := Lib.hid (imI f.w f.h _ f.d _ (hd.call hb0))
   unfold ImOkAns at HI
   have HN : Hid (¬ bufAt s.w s.h f → bufB s.w s.h L = false) := Lib.hid fun h1 => bufB_no fun h2 => h1 (h2.2 k f Hf.out)
   have HY : Hid (bufAt s.w s.h f → ∀ (j : Nat) (f : Im), j < k + 1 → L[j]? = some f → bufAt s.w s.h f) := Lib.hid fun h1 j y hj hy => by
    by_cases hjk : j < k
    ·exact Hall.out j y hjk hy
    ·obtain rfl : j = k := by omega
     rw [Hf.out] at hy
     rw [← Option.some.inj hy]
     exact h1
   replace hA := hA.call hb0
   obtain ⟨d0, d1, d2, d3⟩ := hA.cells
   have hx := BkAt.new wr 70 #[.int .i64 f.w, .int .i64 f.h, .slice A2 f.d.length c3]
   clear hf hR hC hb0 hd hA hx
   by_cases q1 : f.w = s.w
   rotate_left
   ·have hno := Lib.hid (HN.out fun h => q1 h.1)
    have q1b : (f.w != s.w) = true := by simpa using q1
    go_wp2_with fail
    go_ret
    exact ⟨ret_bool hno.out.symm, HB1.out⟩
   by_cases q2 : f.h = s.h
   rotate_left
   ·have hno := Lib.hid (HN.out fun h => q2 h.2.1)
    have q1b : (f.w != s.w) = false := by simpa using q1
    have q2b : (f.h != s.h) = true := by simpa using q2
    clear q1
    go_wp2_with fail
    go_ret
    exact ⟨ret_bool hno.out.symm, HB1.out⟩
   have q1b : (f.w != s.w) = false := by simpa using q1
   have q2b : (f.h != s.h) = false := by simpa using q2
   have Q := Lib.hid (And.intro q1 q2)
   clear q1 q2
   by_cases q3 : imOk f.w f.h f.d
   rotate_left
   ·have hno := Lib.hid (HN.out fun h => q3 h.2.2)
    rw [imB_no q3] at HI
    go_wp2_with fail
    refine HI.out.mono ?_
    rintro e w2 ⟨rfl, hb⟩
    have HB2 := Lib.hid (belI_call HB1.out hb)
    clear c0 c1 c2 d0 d1 d2 d3 hb
    go_wp2_with fail
    go_ret
    exact ⟨ret_bool hno.out.symm, HB2.out⟩
   ·have hyes := Lib.hid (HY.out ⟨Q.out.1, Q.out.2, q3⟩)
    rw [imB_yes q3] at HI
    clear q3
    go_wp2_with fail
    refine HI.out.mono ?_
    rintro e w2 ⟨rfl, hb⟩
    have HK2 := Lib.hid (belI_call HK1.out hb)
    clear c0 c1 c2 d0 d1 d2 d3 hb
    go_wp2_with fail
    go_roundw
    case rel => exact ⟨k + 1, by omega, by go_num, hyes, HK2⟩
    case measure => simp [intOf]; omega
  ·obtain rfl : k = n := by omega
   have hy := Lib.hid (bufB_yes (W := s.w) (H := s.h) (L := L) ⟨by rw [← Hn.out]; exact h3, fun j x hj => Hall.out j x (by rw [Hn.out]; exact (List.getElem?_eq_some_iff.1 hj).1) hj⟩)
   go_wp2_with fail
   go_ret
   exact ⟨ret_bool hy.out.symm, belI_call HB.out HK.out⟩
end Go.Proofs.YtnndifemkichmaaGreat
namespace Go.Proofs.YtnndifemkichmaaGreat
open Go.RowKit
set_option maxHeartbeats 1000000 in
set_option maxRecDepth 10000 in
theorem scrS (s : Sn) (v : Value) (w : World) : Calls Tryz.prog 84 #[.agg #[.int .i64 s.w, .int .i64 s.h, .int .i64 s.back, v]] w (RofAns [⟨0, 0, s.w, s.h⟩] w) := by
 have hT := CwS.born (w := w) (s := s) (v := v)
 obtain ⟨d0, d1, d2, d3⟩ := hT.a.cells4
 have hT1 := hT.call (belI_box _ (.cells #[.int .i64 0, .int .i64 0, .int .i64 s.w, .int .i64 s.h] 131))
 obtain ⟨V, hV⟩ : ∃ V, V = ((w.alloc (.cells #[.int .i64 s.w, .int .i64 s.h, .int .i64 s.back, v] 26)).alloc (.cells #[.slice none 0 0] 55)).alloc (.cells #[.int .i64 0, .int .i64 0, .int .i64 s.w, .int .i64 s.h] 131) := ⟨_, rfl⟩
 have hx : RcAt V (w.heap.size + 1 + 1) ⟨0, 0, s.w, s.h⟩ := by rw [hV]; exact RcAt.newAt (by simp) ⟨0, 0, s.w, s.h⟩
 rw [← hV] at hT1
 have HF := rofS (.slice (some ⟨w.heap.size + 1 + 1, 0, none⟩) 1 1) [⟨0, 0, s.w, s.h⟩] V (RdR.one hx)
 obtain ⟨L, hL⟩ : ∃ L, L = canon (gridOf [⟨0, 0, s.w, s.h⟩]) := ⟨_, rfl⟩
 unfold RofAns at HF ⊢
 rw [← hL] at HF ⊢
 have HF := Lib.hid HF
 have HT1 := Lib.hid hT1
 have HV := Lib.hid hV
 clear hL hT hT1 hV hx
 go_enter Tryz.func84, Tryz.ntmps84
 go_wp2_with fail
 rw [← HV.out]
 refine HF.out.mono ?_
 rintro e w2 ⟨z, rfl, hz, hb⟩
 obtain ⟨Az, cz, rfl⟩ := own_shape hz
 have HT2 := Lib.hid (HT1.out.call hb)
 have hs1 := HT1.out.x.lt
 obtain ⟨r0, r1⟩ := HT2.out.res
 have Hz := Lib.hid hz
 clear hz hb d0 d1 d2 d3
 go_wp2_with fail
 exact bodyPost_ret (v := .agg #[.slice Az L.length cz]) (by simp [results, Tryz.results84, go_sem, r0]) rfl ⟨_, rfl, own_set Hz.out (by omega) (by omega) _, HT2.out.bw.setCell (by simp) _⟩
end Go.Proofs.YtnndifemkichmaaGreat
