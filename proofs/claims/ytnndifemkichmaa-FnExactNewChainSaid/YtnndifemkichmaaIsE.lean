/- The laws' comparisons of lists of images and of regions. No statement is proved here. -/
import Derived.Test.YtnndifemkichmaaMA
import Derived.Test.YtnndifemkichmaaMB
import Derived.Test.YtnndifemkichmaaLk
import Derived.Test.YtnndifemkichmaaChM
import Derived.Test.YtnndifemkichmaaProg
import Derived.WalkKit
import Derived.ProofKit
import Derived.OpenShut
import Derived.WalkLawsBesides
import Derived.WalkSpells
import Derived.ShutString
import Derived.ChangeOld
import Derived.Below
import Derived.Lib.Hide
import Derived.BigQuiet
import Derived.Deep.QuietTactic
import Derived.Maps.AppendAt
import Derived.Deep.OwnRows
import Derived.Handy
import Derived.Deep.Draws
import Derived.OwnWalk
import Derived.Deep.AppendLies
import Derived.Deep.LoopGhost
import Derived.Deep.Onto
import Derived.Deep.MidRow
import Derived.Deep.WholeRow
import Derived.Laws.BitsAllLaws
import Derived.Lib.QuoteBits
import Derived.Deep.RegionHeld3
import Derived.Deep.DeepCutAuto
import Derived.Test.YtnndifemkichmaaShelf
import Derived.Laws.CopyOwn
import Derived.Deep.RegionLaw
import Derived.Great.BuildSlice
import Derived.Laws.AppendOwn
namespace Go.Proofs.Ytnndifemkichmaa
open Go.RowKit
theorem form_lIs {w : World} {v : Value} {L : List Im} {bs : List Nat} (h : repIms.R w L [v] bs) : (∃ A c, v = .slice A L.length c) ∧ L.length ≤ maxLen := by
 rcases SlU.of_rep h with ⟨rfl, rfl, rfl⟩ | ⟨g, c, xs, bss, rfl, hU, rfl⟩
 ·exact ⟨⟨none, 0, rfl⟩, Nat.zero_le _⟩
 ·rcases hU.ow.2 with ⟨he, _⟩ | ⟨g', cap, cur, he, _, _, hn, hc, _⟩
  ·cases he
  ·exact ⟨⟨_, _, rfl⟩, by omega⟩
theorem at_lIs {w : World} {A : Option Addr} {n c k : Nat} {L : List Im} {bs : List Nat} (h : repIms.R w L [.slice A n c] bs) (hk : k < L.length) : ∃ g f d b, A = some ⟨g, 0, none⟩ ∧ L[k]? = some f ∧ repIm.R w f (imCells f d) b ∧ ∀ j u, (imCells f d)[j]? = some u → w.cell? ⟨g, k * 3 + j, none⟩ = some u := by
 rcases SlU.of_rep h with ⟨_, rfl, _⟩ | ⟨g, c', xs, bss, he, hU, _⟩
 ·simp at hk
 ·injection he with e1 e2 e3
  subst e1
  obtain ⟨f, x, b, hf, hx, hb, hl, hR, hc⟩ := hU.at_ hk
  have hR2 := hR
  obtain ⟨d, rfl, _⟩ := hR2
  exact ⟨g, f, d, b, rfl, hf, hR, hc⟩
structure EqSIs (w : World) (g g' k : Nat) (f : Im) (d d' : Value) (b b' : List Nat) (W : World) : Prop where
 c : ∀ j u, (imCells f d)[j]? = some u → W.cell? ⟨g, k * 3 + j, none⟩ = some u
 c' : ∀ j u, (imCells f d')[j]? = some u → W.cell? ⟨g', k * 3 + j, none⟩ = some u
 r : repIm.R W f (imCells f d) b
 r' : repIm.R W f (imCells f d') b'
 bw : Below w.heap.size w W
theorem EqSIs.call {w : World} {g g' k : Nat} {f : Im} {d d' : Value} {b b' : List Nat} {W W' : World} (h : EqSIs w g g' k f d d' b b' W) (hb : Below W.heap.size W W') : EqSIs w g g' k f d d' b b' W' :=
 ⟨fun j u hu => (hb.cell (World.block_lt_of_cell? W _ (h.c j u hu))).trans (h.c j u hu), fun j u hu => (hb.cell (World.block_lt_of_cell? W _ (h.c' j u hu))).trans (h.c' j u hu), Rep.call h.r hb, Rep.call h.r' hb, belI_call h.bw hb⟩
set_option maxHeartbeats 2000000 in
set_option maxRecDepth 10000 in
theorem eqIs_same (L : List Im) (v u : Value) (bs cs : List Nat) (w : World) (h1 : repIms.R w L [v] bs) (h2 : repIms.R w L [u] cs) : Calls Try.prog 58 #[v, u] w fun e w' => e = .returned (.bool true) ∧ Below w.heap.size w w' := by
 obtain ⟨⟨A, c, rfl⟩, hm⟩ := form_lIs h1
 obtain ⟨⟨A', c', rfl⟩, _⟩ := form_lIs h2
 obtain ⟨n, hn⟩ : ∃ n, n = L.length := ⟨_, rfl⟩
 rw [← hn] at h1 h2 hm ⊢
 unfold maxLen at hm
 have H1 := Lib.hid h1
 have H2 := Lib.hid h2
 have Hn := Lib.hid hn
 clear h1 h2 hn
 go_enter Try.func58, Try.ntmps58
 go_wp2_with fail
 go_loopw [5] (fun s5 wr => ∃ k : Nat, k ≤ n ∧ s5 = .int .i64 k ∧ Hid (Below w.heap.size w wr)) (fun s5 _ => n - (intOf s5).toNat)
 case atStart => exact ⟨0, Nat.zero_le _, rfl, Lib.hid (Below.refl _ _)⟩
 case round =>
  obtain ⟨k, hk, rfl, HB⟩ := hrel
  by_cases hlt : k < n
  ·obtain ⟨g, f, d, b, rfl, hf, hR, hC⟩ := at_lIs (Rep.call H1.out HB.out) (k := k) (by rw [← Hn.out]; exact hlt)
   obtain ⟨g', f', d', b', rfl, hf', hR', hC'⟩ := at_lIs (Rep.call H2.out HB.out) (k := k) (by rw [← Hn.out]; exact hlt)
   obtain rfl : f = f' := Option.some.inj (hf.symm.trans hf')
   have hT : EqSIs w g g' k f d d' b b' wr := ⟨hC, hC', hR, hR', HB.out⟩
   have k0 : (0 : Int) ≤ (k : Int) := by omega
   have k1 : (k : Int) < (n : Int) := by omega
   clear hf hf' hR hR' hC hC'
   go_upto_region 6 with fail
   refine wp_region_held_drew (S := fun W => EqSIs w g g' k f d d' b b' W) (by kernel_rfl) (hT.call (belI_drew _)) (fun hS => ?_)
   refine tcH (i := 0) (v := .slice (some ⟨g, 0, none⟩) n c) rfl (by intro w' hSw; (try dsimp only at hSw); (have a0 := hSw.c 0 _ rfl); (rw [Nat.add_zero] at a0); (have a1 := hSw.c 1 _ rfl); (have a2 := hSw.c 2 _ rfl); (have b0 := hSw.c' 0 _ rfl); (rw [Nat.add_zero] at b0); (have b1 := hSw.c' 1 _ rfl); (have b2 := hSw.c' 2 _ rfl); go_simp) ?_
   refine tcH (i := 1) (v := .int .i64 (k : Int)) rfl (by intro w' hSw; (try dsimp only at hSw); (have a0 := hSw.c 0 _ rfl); (rw [Nat.add_zero] at a0); (have a1 := hSw.c 1 _ rfl); (have a2 := hSw.c 2 _ rfl); (have b0 := hSw.c' 0 _ rfl); (rw [Nat.add_zero] at b0); (have b1 := hSw.c' 1 _ rfl); (have b2 := hSw.c' 2 _ rfl); go_simp) ?_
   refine tcH (i := 2) (v := .pointer (some ⟨g, k * 3, none⟩)) rfl (by intro w' hSw; (try dsimp only at hSw); (have a0 := hSw.c 0 _ rfl); (rw [Nat.add_zero] at a0); (have a1 := hSw.c 1 _ rfl); (have a2 := hSw.c 2 _ rfl); (have b0 := hSw.c' 0 _ rfl); (rw [Nat.add_zero] at b0); (have b1 := hSw.c' 1 _ rfl); (have b2 := hSw.c' 2 _ rfl); go_simp) ?_
   refine tcH (i := 3) (v := .agg #[.int .i64 f.w, .int .i64 f.h, d]) rfl (by intro w' hSw; (try dsimp only at hSw); (have a0 := hSw.c 0 _ rfl); (rw [Nat.add_zero] at a0); (have a1 := hSw.c 1 _ rfl); (have a2 := hSw.c 2 _ rfl); (have b0 := hSw.c' 0 _ rfl); (rw [Nat.add_zero] at b0); (have b1 := hSw.c' 1 _ rfl); (have b2 := hSw.c' 2 _ rfl); go_simp) ?_
   refine tcH (i := 4) (v := .slice (some ⟨g', 0, none⟩) n c') rfl (by intro w' hSw; (try dsimp only at hSw); (have a0 := hSw.c 0 _ rfl); (rw [Nat.add_zero] at a0); (have a1 := hSw.c 1 _ rfl); (have a2 := hSw.c 2 _ rfl); (have b0 := hSw.c' 0 _ rfl); (rw [Nat.add_zero] at b0); (have b1 := hSw.c' 1 _ rfl); (have b2 := hSw.c' 2 _ rfl); go_simp) ?_
   refine tcH (i := 5) (v := .int .i64 (k : Int)) rfl (by intro w' hSw; (try dsimp only at hSw); (have a0 := hSw.c 0 _ rfl); (rw [Nat.add_zero] at a0); (have a1 := hSw.c 1 _ rfl); (have a2 := hSw.c 2 _ rfl); (have b0 := hSw.c' 0 _ rfl); (rw [Nat.add_zero] at b0); (have b1 := hSw.c' 1 _ rfl); (have b2 := hSw.c' 2 _ rfl); go_simp) ?_
   refine tcH (i := 6) (v := .pointer (some ⟨g', k * 3, none⟩)) rfl (by intro w' hSw; (try dsimp only at hSw); (have a0 := hSw.c 0 _ rfl); (rw [Nat.add_zero] at a0); (have a1 := hSw.c 1 _ rfl); (have a2 := hSw.c 2 _ rfl); (have b0 := hSw.c' 0 _ rfl); (rw [Nat.add_zero] at b0); (have b1 := hSw.c' 1 _ rfl); (have b2 := hSw.c' 2 _ rfl); go_simp) ?_
   refine tcH (i := 7) (v := .agg #[.int .i64 f.w, .int .i64 f.h, d']) rfl (by intro w' hSw; (try dsimp only at hSw); (have a0 := hSw.c 0 _ rfl); (rw [Nat.add_zero] at a0); (have a1 := hSw.c 1 _ rfl); (have a2 := hSw.c 2 _ rfl); (have b0 := hSw.c' 0 _ rfl); (rw [Nat.add_zero] at b0); (have b1 := hSw.c' 1 _ rfl); (have b2 := hSw.c' 2 _ rfl); go_simp) ?_
   (try simp only [Act.put]); (try simp only [zPa]); (try simp only [zPb, zPc])
   refine wpAnyH_ready (rs := [8]) (by kernel_rfl) (by simp) ?_
   refine (AllReadyH.cons rfl (fun K hK => ?_) AllReadyH.nil)
   ·rw [if_pos (by kernel_rfl)]
    (try simp only [zGa]); (try simp only [zGb]); (try simp only [zGc])
    go_simp
    with_reducible refine (eq_im f d d' b b' _ hS.r hS.r').mono ?_
    rintro e W' ⟨rfl, hb⟩
    dsimp only
    refine hK.out _ _ (hS.call hb) (fun hS => ?_)
    clear hK
    (try simp only [Act.put]); (try simp only [zPa]); (try simp only [zPb, zPc])
    refine tcH (i := 9) (v := .bool false) rfl (by intro w' hSw; (try dsimp only at hSw); (have a0 := hSw.c 0 _ rfl); (rw [Nat.add_zero] at a0); (have a1 := hSw.c 1 _ rfl); (have a2 := hSw.c 2 _ rfl); (have b0 := hSw.c' 0 _ rfl); (rw [Nat.add_zero] at b0); (have b1 := hSw.c' 1 _ rfl); (have b2 := hSw.c' 2 _ rfl); go_simp) ?_
    refine wpAnyH_done (by kernel_rfl) ?_ _
    go_wp2_with fail
    go_roundw
    case rel => exact ⟨k + 1, by omega, by go_num, Lib.hid hS.bw⟩
    case measure => simp [intOf]; omega
  ·obtain rfl : k = n := by omega
   go_wp2_with fail
   go_ret
   exact ⟨rfl, HB.out⟩
theorem form_lGs {w : World} {v : Value} {L : List (List Rc)} {bs : List Nat} (h : repRgs.R w L [v] bs) : (∃ A c, v = .slice A L.length c) ∧ L.length ≤ maxLen := by
 rcases SlU.of_rep h with ⟨rfl, rfl, rfl⟩ | ⟨g, c, xs, bss, rfl, hU, rfl⟩
 ·exact ⟨⟨none, 0, rfl⟩, Nat.zero_le _⟩
 ·rcases hU.ow.2 with ⟨he, _⟩ | ⟨g', cap, cur, he, _, _, hn, hc, _⟩
  ·cases he
  ·exact ⟨⟨_, _, rfl⟩, by omega⟩
theorem at_lGs {w : World} {A : Option Addr} {n c k : Nat} {L : List (List Rc)} {bs : List Nat} (h : repRgs.R w L [.slice A n c] bs) (hk : k < L.length) : ∃ g f d b, A = some ⟨g, 0, none⟩ ∧ L[k]? = some f ∧ repRg.R w f (rgCells f d) b ∧ ∀ j u, (rgCells f d)[j]? = some u → w.cell? ⟨g, k * 1 + j, none⟩ = some u := by
 rcases SlU.of_rep h with ⟨_, rfl, _⟩ | ⟨g, c', xs, bss, he, hU, _⟩
 ·simp at hk
 ·injection he with e1 e2 e3
  subst e1
  obtain ⟨f, x, b, hf, hx, hb, hl, hR, hc⟩ := hU.at_ hk
  have hR2 := hR
  obtain ⟨d, rfl, _⟩ := hR2
  exact ⟨g, f, d, b, rfl, hf, hR, hc⟩
structure EqSGs (w : World) (g g' k : Nat) (f : (List Rc)) (d d' : Value) (b b' : List Nat) (W : World) : Prop where
 c : ∀ j u, (rgCells f d)[j]? = some u → W.cell? ⟨g, k * 1 + j, none⟩ = some u
 c' : ∀ j u, (rgCells f d')[j]? = some u → W.cell? ⟨g', k * 1 + j, none⟩ = some u
 r : repRg.R W f (rgCells f d) b
 r' : repRg.R W f (rgCells f d') b'
 bw : Below w.heap.size w W
theorem EqSGs.call {w : World} {g g' k : Nat} {f : (List Rc)} {d d' : Value} {b b' : List Nat} {W W' : World} (h : EqSGs w g g' k f d d' b b' W) (hb : Below W.heap.size W W') : EqSGs w g g' k f d d' b b' W' :=
 ⟨fun j u hu => (hb.cell (World.block_lt_of_cell? W _ (h.c j u hu))).trans (h.c j u hu), fun j u hu => (hb.cell (World.block_lt_of_cell? W _ (h.c' j u hu))).trans (h.c' j u hu), Rep.call h.r hb, Rep.call h.r' hb, belI_call h.bw hb⟩
set_option maxHeartbeats 2000000 in
set_option maxRecDepth 10000 in
theorem eqGs_same (L : List (List Rc)) (v u : Value) (bs cs : List Nat) (w : World) (h1 : repRgs.R w L [v] bs) (h2 : repRgs.R w L [u] cs) : Calls Try.prog 60 #[v, u] w fun e w' => e = .returned (.bool true) ∧ Below w.heap.size w w' := by
 obtain ⟨⟨A, c, rfl⟩, hm⟩ := form_lGs h1
 obtain ⟨⟨A', c', rfl⟩, _⟩ := form_lGs h2
 obtain ⟨n, hn⟩ : ∃ n, n = L.length := ⟨_, rfl⟩
 rw [← hn] at h1 h2 hm ⊢
 unfold maxLen at hm
 have H1 := Lib.hid h1
 have H2 := Lib.hid h2
 have Hn := Lib.hid hn
 clear h1 h2 hn
 go_enter Try.func60, Try.ntmps60
 go_wp2_with fail
 go_loopw [5] (fun s5 wr => ∃ k : Nat, k ≤ n ∧ s5 = .int .i64 k ∧ Hid (Below w.heap.size w wr)) (fun s5 _ => n - (intOf s5).toNat)
 case atStart => exact ⟨0, Nat.zero_le _, rfl, Lib.hid (Below.refl _ _)⟩
 case round =>
  obtain ⟨k, hk, rfl, HB⟩ := hrel
  by_cases hlt : k < n
  ·obtain ⟨g, f, d, b, rfl, hf, hR, hC⟩ := at_lGs (Rep.call H1.out HB.out) (k := k) (by rw [← Hn.out]; exact hlt)
   obtain ⟨g', f', d', b', rfl, hf', hR', hC'⟩ := at_lGs (Rep.call H2.out HB.out) (k := k) (by rw [← Hn.out]; exact hlt)
   obtain rfl : f = f' := Option.some.inj (hf.symm.trans hf')
   have hT : EqSGs w g g' k f d d' b b' wr := ⟨hC, hC', hR, hR', HB.out⟩
   have k0 : (0 : Int) ≤ (k : Int) := by omega
   have k1 : (k : Int) < (n : Int) := by omega
   clear hf hf' hR hR' hC hC'
   go_upto_region 6 with fail
   refine wp_region_held_drew (S := fun W => EqSGs w g g' k f d d' b b' W) (by kernel_rfl) (hT.call (belI_drew _)) (fun hS => ?_)
   refine tcH (i := 0) (v := .slice (some ⟨g, 0, none⟩) n c) rfl (by intro w' hSw; (try dsimp only at hSw); (have a0 := hSw.c 0 _ rfl); (rw [Nat.add_zero, Nat.mul_one] at a0); (have b0 := hSw.c' 0 _ rfl); (rw [Nat.add_zero, Nat.mul_one] at b0); go_simp) ?_
   refine tcH (i := 1) (v := .int .i64 (k : Int)) rfl (by intro w' hSw; (try dsimp only at hSw); (have a0 := hSw.c 0 _ rfl); (rw [Nat.add_zero, Nat.mul_one] at a0); (have b0 := hSw.c' 0 _ rfl); (rw [Nat.add_zero, Nat.mul_one] at b0); go_simp) ?_
   refine tcH (i := 2) (v := .pointer (some ⟨g, k, none⟩)) rfl (by intro w' hSw; (try dsimp only at hSw); (have a0 := hSw.c 0 _ rfl); (rw [Nat.add_zero, Nat.mul_one] at a0); (have b0 := hSw.c' 0 _ rfl); (rw [Nat.add_zero, Nat.mul_one] at b0); go_simp) ?_
   refine tcH (i := 3) (v := .agg #[d]) rfl (by intro w' hSw; (try dsimp only at hSw); (have a0 := hSw.c 0 _ rfl); (rw [Nat.add_zero, Nat.mul_one] at a0); (have b0 := hSw.c' 0 _ rfl); (rw [Nat.add_zero, Nat.mul_one] at b0); go_simp) ?_
   refine tcH (i := 4) (v := .slice (some ⟨g', 0, none⟩) n c') rfl (by intro w' hSw; (try dsimp only at hSw); (have a0 := hSw.c 0 _ rfl); (rw [Nat.add_zero, Nat.mul_one] at a0); (have b0 := hSw.c' 0 _ rfl); (rw [Nat.add_zero, Nat.mul_one] at b0); go_simp) ?_
   refine tcH (i := 5) (v := .int .i64 (k : Int)) rfl (by intro w' hSw; (try dsimp only at hSw); (have a0 := hSw.c 0 _ rfl); (rw [Nat.add_zero, Nat.mul_one] at a0); (have b0 := hSw.c' 0 _ rfl); (rw [Nat.add_zero, Nat.mul_one] at b0); go_simp) ?_
   refine tcH (i := 6) (v := .pointer (some ⟨g', k, none⟩)) rfl (by intro w' hSw; (try dsimp only at hSw); (have a0 := hSw.c 0 _ rfl); (rw [Nat.add_zero, Nat.mul_one] at a0); (have b0 := hSw.c' 0 _ rfl); (rw [Nat.add_zero, Nat.mul_one] at b0); go_simp) ?_
   refine tcH (i := 7) (v := .agg #[d']) rfl (by intro w' hSw; (try dsimp only at hSw); (have a0 := hSw.c 0 _ rfl); (rw [Nat.add_zero, Nat.mul_one] at a0); (have b0 := hSw.c' 0 _ rfl); (rw [Nat.add_zero, Nat.mul_one] at b0); go_simp) ?_
   (try simp only [Act.put]); (try simp only [zPa]); (try simp only [zPb, zPc])
   refine wpAnyH_ready (rs := [8]) (by kernel_rfl) (by simp) ?_
   refine (AllReadyH.cons rfl (fun K hK => ?_) AllReadyH.nil)
   ·rw [if_pos (by kernel_rfl)]
    (try simp only [zGa]); (try simp only [zGb]); (try simp only [zGc])
    go_simp
    with_reducible refine (eq_rg f d d' b b' _ hS.r hS.r').mono ?_
    rintro e W' ⟨rfl, hb⟩
    dsimp only
    refine hK.out _ _ (hS.call hb) (fun hS => ?_)
    clear hK
    (try simp only [Act.put]); (try simp only [zPa]); (try simp only [zPb, zPc])
    refine tcH (i := 9) (v := .bool false) rfl (by intro w' hSw; (try dsimp only at hSw); (have a0 := hSw.c 0 _ rfl); (rw [Nat.add_zero, Nat.mul_one] at a0); (have b0 := hSw.c' 0 _ rfl); (rw [Nat.add_zero, Nat.mul_one] at b0); go_simp) ?_
    refine wpAnyH_done (by kernel_rfl) ?_ _
    go_wp2_with fail
    go_roundw
    case rel => exact ⟨k + 1, by omega, by go_num, Lib.hid hS.bw⟩
    case measure => simp [intOf]; omega
  ·obtain rfl : k = n := by omega
   go_wp2_with fail
   go_ret
   exact ⟨rfl, HB.out⟩
end Go.Proofs.Ytnndifemkichmaa
