/- The greatest number of a list; the contracts of slices.Max over ints and of NextBuffer of the program. No statement is proved here. -/
import Derived.Test.YtnndifemkichmaaMA
import Derived.Test.YtnndifemkichmaaMC
import Derived.Test.YtnndifemkichmaaMB
import Derived.Test.YtnndifemkichmaaChM
import Derived.Test.YtnndifemkichmaaIsE
import Derived.Test.YtnndifemkichmaaSlE
import Derived.Test.YtnndifemkichmaaChL
import Derived.Test.YtnndifemkichmaaChO
import Derived.Test.YtnndifemkichmaaChI
import Derived.Test.YtnndifemkichmaaChJ
import Derived.Test.YtnndifemkichmaaProg
import Derived.WalkKit
import Derived.ProofKit
import Derived.OpenShut
import Derived.WalkLawsBesides
import Derived.WalkSpells
import Derived.ShutString
import Derived.ChangeOld
import Derived.Below
import Derived.Lib.Hide
import Derived.BigQuiet
import Derived.Deep.QuietTactic
import Derived.Maps.AppendAt
import Derived.Deep.OwnRows
import Derived.Handy
import Derived.Deep.Draws
import Derived.OwnWalk
import Derived.Deep.AppendLies
import Derived.Deep.LoopGhost
import Derived.Deep.Onto
import Derived.Deep.MidRow
import Derived.Deep.WholeRow
import Derived.Laws.BitsAllLaws
import Derived.Lib.QuoteBits
import Derived.Deep.RegionHeld3
import Derived.Deep.DeepCutAuto
import Derived.Test.YtnndifemkichmaaShelf
import Derived.Laws.CopyOwn
import Derived.Deep.RegionLaw
import Derived.Great.BuildSlice
import Derived.Laws.AppendOwn
namespace Go.Proofs.Ytnndifemkichmaa
open Go.RowKit
def IsMx (L : List Int) (k : Nat) (m : Int) : Prop := (∃ j : Nat, j < k ∧ L[j]? = some m) ∧ ∀ (j : Nat) (y : Int), j < k → L[j]? = some y → y ≤ m
theorem IsMx.uniq {L : List Int} {k : Nat} {m m' : Int} (h : IsMx L k m) (h' : IsMx L k m') : m = m' := by
 obtain ⟨⟨j, h1, h2⟩, h3⟩ := h
 obtain ⟨⟨j', h1', h2'⟩, h3'⟩ := h'
 have a := h3 j' m' h1' h2'
 have b := h3' j m h1 h2
 omega
noncomputable def mxI (L : List Int) : Int := @dite _ (∃ m, IsMx L L.length m) (Classical.propDecidable _) (fun h => Classical.choose h) (fun _ => 0)
theorem mxI_is {L : List Int} {m : Int} (h : IsMx L L.length m) : m = mxI L := by
 have he : ∃ m, IsMx L L.length m := ⟨m, h⟩
 unfold mxI
 rw [dif_pos he]
 exact h.uniq (Classical.choose_spec he)
theorem IsMx.one {L : List Int} {x : Int} (h : L[0]? = some x) : IsMx L 1 x := ⟨⟨0, by omega, h⟩, fun j y hj hy => by
 obtain rfl : j = 0 := by omega
 rw [h] at hy
 rw [Option.some.inj hy]; exact Int.le_refl _⟩
theorem IsMx.next {L : List Int} {k : Nat} {m x M : Int} (h : IsMx L k m) (hx : L[k]? = some x) (hM : M = max m x) : IsMx L (k + 1) M := by
 obtain ⟨⟨j, h1, h2⟩, h3⟩ := h
 refine ⟨?_, fun i y hi hy => ?_⟩
 ·by_cases hc : m ≤ x
  ·exact ⟨k, by omega, by rw [hx, hM]; congr 1; omega⟩
  ·exact ⟨j, by omega, by rw [h2, hM]; congr 1; omega⟩
 ·by_cases hik : i < k
  ·have := h3 i y hik hy; omega
  ·obtain rfl : i = k := by omega
   rw [hx] at hy
   have := Option.some.inj hy
   omega
noncomputable def nextM (c : Ch) : Int := @ite _ (cnOk c) (Classical.propDecidable _) (if 0 ≤ fstI c.ages 0 then fstI c.ages 0 else fstI c.ages (mxI c.ages)) (-1)
theorem nextM_no {c : Ch} (h : ¬ cnOk c) : nextM c = -1 := by unfold nextM; rw [if_neg h]
theorem nextM_zero {c : Ch} (h : cnOk c) (h0 : 0 ≤ fstI c.ages 0) : nextM c = fstI c.ages 0 := by unfold nextM; rw [if_pos h, if_pos h0]
theorem nextM_mx {c : Ch} (h : cnOk c) (h0 : ¬ 0 ≤ fstI c.ages 0) : nextM c = fstI c.ages (mxI c.ages) := by unfold nextM; rw [if_pos h, if_neg h0]
def NextAns (f : Ch) (w : World) (e : Ending) (w' : World) : Prop := e = .returned (.int .i64 (nextM f)) ∧ Below w.heap.size w w'
set_option maxHeartbeats 1000000 in
set_option maxRecDepth 10000 in
theorem maxII (L : List Int) (v : Value) (w : World) (h0 : 1 ≤ L.length) (h : RdI w v L) : Calls Try.prog 79 #[v] w fun e w' => e = .returned (.int .i64 (mxI L)) ∧ w' = w := by
 have hm := h.len
 obtain ⟨A, c, rfl⟩ := h.form
 obtain ⟨n, hn⟩ : ∃ n, n = L.length := ⟨_, rfl⟩
 rw [← hn] at h h0 hm ⊢
 unfold maxLen at hm
 have Hn := Lib.hid hn
 have HR := Lib.hid h
 obtain ⟨g, x, rfl, hx, hc⟩ := h.at_ (k := 0) (by omega)
 have H0 := Lib.hid (IsMx.one hx)
 have h1 : ¬ (n : Int) < 1 := by omega
 clear h hn hx
 go_enter Try.func79, Try.ntmps79
 go_wp2_with fail
 go_loopw [3, 4] (fun s3 s4 wr => ∃ (k : Nat) (m : Int), 1 ≤ k ∧ k ≤ n ∧ s4 = .int .i64 k ∧ s3 = .int .i64 m ∧ Hid (IsMx L k m) ∧ wr = w) (fun _ s4 _ => n - (intOf s4).toNat)
 case atStart => exact ⟨1, x, Nat.le_refl _, h0, rfl, rfl, H0, rfl⟩
 case round =>
  clear hc
  obtain ⟨k, m, hk1, hk, rfl, rfl, HM, rfl⟩ := hrel
  by_cases hlt : k < n
  ·obtain ⟨g', y, he, hy, hc⟩ := HR.out.at_ (k := k) (by rw [← Hn.out]; exact hlt)
   obtain rfl : g = g' := by simpa using he
   have k0 : (0 : Int) ≤ (k : Int) := by omega
   have k1 : (k : Int) < (n : Int) := by omega
   obtain ⟨M, hM⟩ : ∃ M, M = max m y := ⟨_, rfl⟩
   have hN := Lib.hid (HM.out.next hy hM)
   have hmx : (if m < y then y else m) = M := by rw [hM]; split <;> omega
   have hmx2 : max m y = M := hM.symm
   clear hy he hM
   go_wp2_with fail
   go_roundw
   case rel => exact ⟨k + 1, M, by omega, by omega, by go_num, rfl, hN, by first | rfl | trivial⟩
   case measure => simp [intOf]; omega
  ·obtain rfl : k = n := by omega
   have hf : Hid (m = mxI L) := Lib.hid (mxI_is (by rw [← Hn.out]; exact HM.out))
   go_wp2_with fail
   go_ret
   exact ⟨ret_int hf.out, rfl⟩
set_option maxHeartbeats 2000000 in
set_option maxRecDepth 10000 in
theorem nextI (f : Ch) (a b e d : Value) (bs : List Nat) (w : World) (h : repCh.R w f [a, b, e, .int .i64 f.s.w, .int .i64 f.s.h, .int .i64 f.s.back, d] bs) :
  Calls Try.prog 23 #[.agg #[a, b, e, .int .i64 f.s.w, .int .i64 f.s.h, .int .i64 f.s.back, d]] w (NextAns f w) := by
 have hT := CnA.born h
 obtain ⟨A0, c0, A1, c1, A2, c2, A3, c3, rfl, rfl, rfl, rfl⟩ := form_cn h
 have HC := Lib.hid (cnI f _ _ _ _ bs _ hT.r)
 unfold CnOkAns at HC
 obtain ⟨d0, d1, d2, d3, d4, d5, d6⟩ := hT.cells
 have HT := Lib.hid hT
 clear h hT
 by_cases hok : cnOk f
 rotate_left
 ·have hno := Lib.hid (nextM_no hok)
  rw [cnB_no hok] at HC
  go_enter Try.func23, Try.ntmps23
  go_wp2_with fail
  refine HC.out.mono ?_
  rintro e w1 ⟨rfl, hb⟩
  have HB := Lib.hid (HT.out.call hb).bw
  clear d0 d1 d2 d3 d4 d5 d6 hb
  go_wp2_with fail
  go_ret
  exact ⟨ret_int hno.out.symm, HB.out⟩
 rw [cnB_yes hok] at HC
 have HK := Lib.hid hok
 have Hl := Lib.hid (show 1 ≤ f.ages.length by rw [hok.2.2.2.1]; exact hok.2.1.1.1)
 clear hok
 go_enter Try.func23, Try.ntmps23
 go_wp2_with fail
 refine HC.out.mono ?_
 rintro e w1 ⟨rfl, hb⟩
 have HT1 := Lib.hid (HT.out.call hb)
 clear d0 d1 d2 d3 d4 d5 d6 hb
 obtain ⟨d0, d1, d2, d3, d4, d5, d6⟩ := HT1.out.cells
 obtain ⟨q, hq⟩ : ∃ q, q = fstI f.ages 0 := ⟨_, rfl⟩
 have HI := Lib.hid (fstII f.ages _ 0 w1 HT1.out.g)
 rw [← hq] at HI
 have HQ := Lib.hid hq
 clear hq
 by_cases h0 : 0 ≤ q
 ·have hz := Lib.hid (nextM_zero HK.out (by rw [← HQ.out]; exact h0))
  rw [← HQ.out] at hz
  go_wp2_with fail
  refine HI.out.mono ?_
  rintro e w2 ⟨rfl, rfl⟩
  clear d0 d1 d2 d3 d4 d5 d6
  go_wp2_with fail
  go_ret
  exact ⟨ret_int hz.out.symm, HT1.out.bw⟩
 ·have hz := Lib.hid (nextM_mx HK.out (by rw [← HQ.out]; exact h0))
  obtain ⟨M, hM⟩ : ∃ M, M = mxI f.ages := ⟨_, rfl⟩
  rw [← hM] at hz
  have HX := Lib.hid (fun (W : World) (h : RdI W (.slice A1 f.ages.length c1) f.ages) => maxII f.ages _ W Hl.out h)
  have HJ := Lib.hid (fun (W : World) (h : RdI W (.slice A1 f.ages.length c1) f.ages) => fstII f.ages _ M W h)
  rw [← hM] at HX
  clear hM
  go_wp2_with fail
  refine HI.out.mono ?_
  rintro e w2 ⟨rfl, rfl⟩
  clear d0 d1 d2 d3 d4 d5 d6
  go_upto_region 6 with fail
  refine wp_region_held_drew (S := fun W => CnA w f (.slice A0 f.ims.length c0) (.slice A1 f.ages.length c1) (.slice A2 f.rgs.length c2) (.slice A3 f.s.fs.length c3) bs W) (by kernel_rfl) (HT1.out.call (belI_drew _)) (fun hS => ?_)
  refine tcH (i := 0) (v := .pointer (some ⟨w.heap.size, 1, none⟩)) rfl (by intro w' hSw; (try dsimp only at hSw); (obtain ⟨d0, d1, d2, d3, d4, d5, d6⟩ := hSw.cells); go_simp) ?_
  refine tcH (i := 1) (v := .slice A1 f.ages.length c1) rfl (by intro w' hSw; (try dsimp only at hSw); (obtain ⟨d0, d1, d2, d3, d4, d5, d6⟩ := hSw.cells); go_simp) ?_
  refine tcH (i := 2) (v := .pointer (some ⟨w.heap.size, 1, none⟩)) rfl (by intro w' hSw; (try dsimp only at hSw); (obtain ⟨d0, d1, d2, d3, d4, d5, d6⟩ := hSw.cells); go_simp) ?_
  refine tcH (i := 3) (v := .slice A1 f.ages.length c1) rfl (by intro w' hSw; (try dsimp only at hSw); (obtain ⟨d0, d1, d2, d3, d4, d5, d6⟩ := hSw.cells); go_simp) ?_
  (try simp only [Act.put]); (try simp only [zPa]); (try simp only [zPb, zPc])
  refine wpAnyH_ready (rs := [4]) (by kernel_rfl) (by simp) ?_
  refine (AllReadyH.cons rfl (fun K hK => ?_) AllReadyH.nil)
  ·rw [if_pos (by kernel_rfl)]
   (try simp only [zGa]); (try simp only [zGb]); (try simp only [zGc])
   go_simp
   with_reducible refine (HX.out _ hS.g).mono ?_
   rintro e W' ⟨rfl, rfl⟩
   dsimp only
   refine hK.out _ _ (hS) (fun hS => ?_)
   clear hK
   (try simp only [Act.put]); (try simp only [zPa]); (try simp only [zPb, zPc])
   refine wpAnyH_ready (rs := [5]) (by kernel_rfl) (by simp) ?_
   refine (AllReadyH.cons rfl (fun K hK => ?_) AllReadyH.nil)
   ·rw [if_pos (by kernel_rfl)]
    (try simp only [zGa]); (try simp only [zGb]); (try simp only [zGc])
    go_simp
    with_reducible refine (HJ.out _ hS.g).mono ?_
    rintro e W' ⟨rfl, rfl⟩
    dsimp only
    refine hK.out _ _ (hS) (fun hS => ?_)
    clear hK
    (try simp only [Act.put]); (try simp only [zPa]); (try simp only [zPb, zPc])
    refine tcH (i := 6) (v := .int .i64 (fstI f.ages M)) rfl (by intro w' hSw; (try dsimp only at hSw); (obtain ⟨d0, d1, d2, d3, d4, d5, d6⟩ := hSw.cells); go_simp) ?_
    refine wpAnyH_done (by kernel_rfl) ?_ _
    go_wp2_with fail
    go_ret
    exact ⟨ret_int hz.out.symm, hS.bw⟩
end Go.Proofs.Ytnndifemkichmaa
