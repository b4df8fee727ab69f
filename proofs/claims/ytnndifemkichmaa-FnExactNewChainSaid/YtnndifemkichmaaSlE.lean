/- The laws' comparisons of lists of surfaces and of edits, and of scenes. No statement is proved here. -/
import Derived.Test.YtnndifemkichmaaMA
import Derived.Test.YtnndifemkichmaaLk
import Derived.Test.YtnndifemkichmaaMB
import Derived.Test.YtnndifemkichmaaSnL
import Derived.Test.YtnndifemkichmaaProg
import Derived.WalkKit
import Derived.ProofKit
import Derived.OpenShut
import Derived.WalkLawsBesides
import Derived.WalkSpells
import Derived.ShutString
import Derived.ChangeOld
import Derived.Below
import Derived.Lib.Hide
import Derived.BigQuiet
import Derived.Deep.QuietTactic
import Derived.Maps.AppendAt
import Derived.Deep.OwnRows
import Derived.Handy
import Derived.Deep.Draws
import Derived.OwnWalk
import Derived.Deep.AppendLies
import Derived.Deep.LoopGhost
import Derived.Deep.Onto
import Derived.Deep.MidRow
import Derived.Deep.WholeRow
import Derived.Laws.BitsAllLaws
import Derived.Lib.QuoteBits
import Derived.Deep.RegionHeld3
import Derived.Deep.DeepCutAuto
import Derived.Test.YtnndifemkichmaaShelf
import Derived.Laws.CopyOwn
import Derived.Deep.RegionLaw
import Derived.Great.BuildSlice
namespace Go.Proofs.Ytnndifemkichmaa
open Go.RowKit
theorem form_lFs {w : World} {v : Value} {L : List Sf} {bs : List Nat} (h : repSfs.R w L [v] bs) : (∃ A c, v = .slice A L.length c) ∧ L.length ≤ maxLen := by
 rcases SlU.of_rep h with ⟨rfl, rfl, rfl⟩ | ⟨g, c, xs, bss, rfl, hU, rfl⟩
 ·exact ⟨⟨none, 0, rfl⟩, Nat.zero_le _⟩
 ·rcases hU.ow.2 with ⟨he, _⟩ | ⟨g', cap, cur, he, _, _, hn, hc, _⟩
  ·cases he
  ·exact ⟨⟨_, _, rfl⟩, by omega⟩
theorem at_lFs {w : World} {A : Option Addr} {n c k : Nat} {L : List Sf} {bs : List Nat} (h : repSfs.R w L [.slice A n c] bs) (hk : k < L.length) : ∃ g f d b, A = some ⟨g, 0, none⟩ ∧ L[k]? = some f ∧ repSf.R w f (sfCells f d) b ∧ ∀ j u, (sfCells f d)[j]? = some u → w.cell? ⟨g, k * 11 + j, none⟩ = some u := by
 rcases SlU.of_rep h with ⟨_, rfl, _⟩ | ⟨g, c', xs, bss, he, hU, _⟩
 ·simp at hk
 ·injection he with e1 e2 e3
  subst e1
  obtain ⟨f, x, b, hf, hx, hb, hl, hR, hc⟩ := hU.at_ hk
  have hR2 := hR
  obtain ⟨d, rfl, _⟩ := hR2
  exact ⟨g, f, d, b, rfl, hf, hR, hc⟩
structure EqSFs (w : World) (g g' k : Nat) (f : Sf) (d d' : Value) (b b' : List Nat) (W : World) : Prop where
 c : ∀ j u, (sfCells f d)[j]? = some u → W.cell? ⟨g, k * 11 + j, none⟩ = some u
 c' : ∀ j u, (sfCells f d')[j]? = some u → W.cell? ⟨g', k * 11 + j, none⟩ = some u
 r : repSf.R W f (sfCells f d) b
 r' : repSf.R W f (sfCells f d') b'
 bw : Below w.heap.size w W
theorem EqSFs.call {w : World} {g g' k : Nat} {f : Sf} {d d' : Value} {b b' : List Nat} {W W' : World} (h : EqSFs w g g' k f d d' b b' W) (hb : Below W.heap.size W W') : EqSFs w g g' k f d d' b b' W' :=
 ⟨fun j u hu => (hb.cell (World.block_lt_of_cell? W _ (h.c j u hu))).trans (h.c j u hu), fun j u hu => (hb.cell (World.block_lt_of_cell? W _ (h.c' j u hu))).trans (h.c' j u hu), Rep.call h.r hb, Rep.call h.r' hb, belI_call h.bw hb⟩
set_option maxHeartbeats 2000000 in
set_option maxRecDepth 10000 in
theorem eqFs_same (L : List Sf) (v u : Value) (bs cs : List Nat) (w : World) (h1 : repSfs.R w L [v] bs) (h2 : repSfs.R w L [u] cs) : Calls Try.prog 70 #[v, u] w fun e w' => e = .returned (.bool true) ∧ Below w.heap.size w w' := by
 obtain ⟨⟨A, c, rfl⟩, hm⟩ := form_lFs h1
 obtain ⟨⟨A', c', rfl⟩, _⟩ := form_lFs h2
 obtain ⟨n, hn⟩ : ∃ n, n = L.length := ⟨_, rfl⟩
 rw [← hn] at h1 h2 hm ⊢
 unfold maxLen at hm
 have H1 := Lib.hid h1
 have H2 := Lib.hid h2
 have Hn := Lib.hid hn
 clear h1 h2 hn
 go_enter Try.func70, Try.ntmps70
 go_wp2_with fail
 go_loopw [5] (fun s5 wr => ∃ k : Nat, k ≤ n ∧ s5 = .int .i64 k ∧ Hid (Below w.heap.size w wr)) (fun s5 _ => n - (intOf s5).toNat)
 case atStart => exact ⟨0, Nat.zero_le _, rfl, Lib.hid (Below.refl _ _)⟩
 case round =>
  obtain ⟨k, hk, rfl, HB⟩ := hrel
  by_cases hlt : k < n
  ·obtain ⟨g, f, d, b, rfl, hf, hR, hC⟩ := at_lFs (Rep.call H1.out HB.out) (k := k) (by rw [← Hn.out]; exact hlt)
   obtain ⟨g', f', d', b', rfl, hf', hR', hC'⟩ := at_lFs (Rep.call H2.out HB.out) (k := k) (by rw [← Hn.out]; exact hlt)
   obtain rfl : f = f' := Option.some.inj (hf.symm.trans hf')
   have hT : EqSFs w g g' k f d d' b b' wr := ⟨hC, hC', hR, hR', HB.out⟩
   have k0 : (0 : Int) ≤ (k : Int) := by omega
   have k1 : (k : Int) < (n : Int) := by omega
   clear hf hf' hR hR' hC hC'
   go_upto_region 6 with fail
   refine wp_region_held_drew (S := fun W => EqSFs w g g' k f d d' b b' W) (by kernel_rfl) (hT.call (belI_drew _)) (fun hS => ?_)
   refine tcH (i := 0) (v := .slice (some ⟨g, 0, none⟩) n c) rfl (by intro w' hSw; (try dsimp only at hSw); (have a0 := hSw.c 0 _ rfl); (rw [Nat.add_zero] at a0); (have a1 := hSw.c 1 _ rfl); (have a2 := hSw.c 2 _ rfl); (have a3 := hSw.c 3 _ rfl); (have a4 := hSw.c 4 _ rfl); (have a5 := hSw.c 5 _ rfl); (have a6 := hSw.c 6 _ rfl); (have a7 := hSw.c 7 _ rfl); (have a8 := hSw.c 8 _ rfl); (have a9 := hSw.c 9 _ rfl); (have a10 := hSw.c 10 _ rfl); (have b0 := hSw.c' 0 _ rfl); (rw [Nat.add_zero] at b0); (have b1 := hSw.c' 1 _ rfl); (have b2 := hSw.c' 2 _ rfl); (have b3 := hSw.c' 3 _ rfl); (have b4 := hSw.c' 4 _ rfl); (have b5 := hSw.c' 5 _ rfl); (have b6 := hSw.c' 6 _ rfl); (have b7 := hSw.c' 7 _ rfl); (have b8 := hSw.c' 8 _ rfl); (have b9 := hSw.c' 9 _ rfl); (have b10 := hSw.c' 10 _ rfl); go_simp) ?_
   refine tcH (i := 1) (v := .int .i64 (k : Int)) rfl (by intro w' hSw; (try dsimp only at hSw); (have a0 := hSw.c 0 _ rfl); (rw [Nat.add_zero] at a0); (have a1 := hSw.c 1 _ rfl); (have a2 := hSw.c 2 _ rfl); (have a3 := hSw.c 3 _ rfl); (have a4 := hSw.c 4 _ rfl); (have a5 := hSw.c 5 _ rfl); (have a6 := hSw.c 6 _ rfl); (have a7 := hSw.c 7 _ rfl); (have a8 := hSw.c 8 _ rfl); (have a9 := hSw.c 9 _ rfl); (have a10 := hSw.c 10 _ rfl); (have b0 := hSw.c' 0 _ rfl); (rw [Nat.add_zero] at b0); (have b1 := hSw.c' 1 _ rfl); (have b2 := hSw.c' 2 _ rfl); (have b3 := hSw.c' 3 _ rfl); (have b4 := hSw.c' 4 _ rfl); (have b5 := hSw.c' 5 _ rfl); (have b6 := hSw.c' 6 _ rfl); (have b7 := hSw.c' 7 _ rfl); (have b8 := hSw.c' 8 _ rfl); (have b9 := hSw.c' 9 _ rfl); (have b10 := hSw.c' 10 _ rfl); go_simp) ?_
   refine tcH (i := 2) (v := .pointer (some ⟨g, k * 11, none⟩)) rfl (by intro w' hSw; (try dsimp only at hSw); (have a0 := hSw.c 0 _ rfl); (rw [Nat.add_zero] at a0); (have a1 := hSw.c 1 _ rfl); (have a2 := hSw.c 2 _ rfl); (have a3 := hSw.c 3 _ rfl); (have a4 := hSw.c 4 _ rfl); (have a5 := hSw.c 5 _ rfl); (have a6 := hSw.c 6 _ rfl); (have a7 := hSw.c 7 _ rfl); (have a8 := hSw.c 8 _ rfl); (have a9 := hSw.c 9 _ rfl); (have a10 := hSw.c 10 _ rfl); (have b0 := hSw.c' 0 _ rfl); (rw [Nat.add_zero] at b0); (have b1 := hSw.c' 1 _ rfl); (have b2 := hSw.c' 2 _ rfl); (have b3 := hSw.c' 3 _ rfl); (have b4 := hSw.c' 4 _ rfl); (have b5 := hSw.c' 5 _ rfl); (have b6 := hSw.c' 6 _ rfl); (have b7 := hSw.c' 7 _ rfl); (have b8 := hSw.c' 8 _ rfl); (have b9 := hSw.c' 9 _ rfl); (have b10 := hSw.c' 10 _ rfl); go_simp) ?_
   refine tcH (i := 3) (v := .agg #[.int .i64 f.id, .int .i64 f.x, .int .i64 f.y, .int .i64 f.w, .int .i64 f.h, .int .i64 f.alpha, .int .i64 f.orient, .bool f.vis, .int .i64 f.bw, .int .i64 f.bh, d]) rfl (by intro w' hSw; (try dsimp only at hSw); (have a0 := hSw.c 0 _ rfl); (rw [Nat.add_zero] at a0); (have a1 := hSw.c 1 _ rfl); (have a2 := hSw.c 2 _ rfl); (have a3 := hSw.c 3 _ rfl); (have a4 := hSw.c 4 _ rfl); (have a5 := hSw.c 5 _ rfl); (have a6 := hSw.c 6 _ rfl); (have a7 := hSw.c 7 _ rfl); (have a8 := hSw.c 8 _ rfl); (have a9 := hSw.c 9 _ rfl); (have a10 := hSw.c 10 _ rfl); (have b0 := hSw.c' 0 _ rfl); (rw [Nat.add_zero] at b0); (have b1 := hSw.c' 1 _ rfl); (have b2 := hSw.c' 2 _ rfl); (have b3 := hSw.c' 3 _ rfl); (have b4 := hSw.c' 4 _ rfl); (have b5 := hSw.c' 5 _ rfl); (have b6 := hSw.c' 6 _ rfl); (have b7 := hSw.c' 7 _ rfl); (have b8 := hSw.c' 8 _ rfl); (have b9 := hSw.c' 9 _ rfl); (have b10 := hSw.c' 10 _ rfl); go_simp) ?_
   refine tcH (i := 4) (v := .slice (some ⟨g', 0, none⟩) n c') rfl (by intro w' hSw; (try dsimp only at hSw); (have a0 := hSw.c 0 _ rfl); (rw [Nat.add_zero] at a0); (have a1 := hSw.c 1 _ rfl); (have a2 := hSw.c 2 _ rfl); (have a3 := hSw.c 3 _ rfl); (have a4 := hSw.c 4 _ rfl); (have a5 := hSw.c 5 _ rfl); (have a6 := hSw.c 6 _ rfl); (have a7 := hSw.c 7 _ rfl); (have a8 := hSw.c 8 _ rfl); (have a9 := hSw.c 9 _ rfl); (have a10 := hSw.c 10 _ rfl); (have b0 := hSw.c' 0 _ rfl); (rw [Nat.add_zero] at b0); (have b1 := hSw.c' 1 _ rfl); (have b2 := hSw.c' 2 _ rfl); (have b3 := hSw.c' 3 _ rfl); (have b4 := hSw.c' 4 _ rfl); (have b5 := hSw.c' 5 _ rfl); (have b6 := hSw.c' 6 _ rfl); (have b7 := hSw.c' 7 _ rfl); (have b8 := hSw.c' 8 _ rfl); (have b9 := hSw.c' 9 _ rfl); (have b10 := hSw.c' 10 _ rfl); go_simp) ?_
   refine tcH (i := 5) (v := .int .i64 (k : Int)) rfl (by intro w' hSw; (try dsimp only at hSw); (have a0 := hSw.c 0 _ rfl); (rw [Nat.add_zero] at a0); (have a1 := hSw.c 1 _ rfl); (have a2 := hSw.c 2 _ rfl); (have a3 := hSw.c 3 _ rfl); (have a4 := hSw.c 4 _ rfl); (have a5 := hSw.c 5 _ rfl); (have a6 := hSw.c 6 _ rfl); (have a7 := hSw.c 7 _ rfl); (have a8 := hSw.c 8 _ rfl); (have a9 := hSw.c 9 _ rfl); (have a10 := hSw.c 10 _ rfl); (have b0 := hSw.c' 0 _ rfl); (rw [Nat.add_zero] at b0); (have b1 := hSw.c' 1 _ rfl); (have b2 := hSw.c' 2 _ rfl); (have b3 := hSw.c' 3 _ rfl); (have b4 := hSw.c' 4 _ rfl); (have b5 := hSw.c' 5 _ rfl); (have b6 := hSw.c' 6 _ rfl); (have b7 := hSw.c' 7 _ rfl); (have b8 := hSw.c' 8 _ rfl); (have b9 := hSw.c' 9 _ rfl); (have b10 := hSw.c' 10 _ rfl); go_simp) ?_
   refine tcH (i := 6) (v := .pointer (some ⟨g', k * 11, none⟩)) rfl (by intro w' hSw; (try dsimp only at hSw); (have a0 := hSw.c 0 _ rfl); (rw [Nat.add_zero] at a0); (have a1 := hSw.c 1 _ rfl); (have a2 := hSw.c 2 _ rfl); (have a3 := hSw.c 3 _ rfl); (have a4 := hSw.c 4 _ rfl); (have a5 := hSw.c 5 _ rfl); (have a6 := hSw.c 6 _ rfl); (have a7 := hSw.c 7 _ rfl); (have a8 := hSw.c 8 _ rfl); (have a9 := hSw.c 9 _ rfl); (have a10 := hSw.c 10 _ rfl); (have b0 := hSw.c' 0 _ rfl); (rw [Nat.add_zero] at b0); (have b1 := hSw.c' 1 _ rfl); (have b2 := hSw.c' 2 _ rfl); (have b3 := hSw.c' 3 _ rfl); (have b4 := hSw.c' 4 _ rfl); (have b5 := hSw.c' 5 _ rfl); (have b6 := hSw.c' 6 _ rfl); (have b7 := hSw.c' 7 _ rfl); (have b8 := hSw.c' 8 _ rfl); (have b9 := hSw.c' 9 _ rfl); (have b10 := hSw.c' 10 _ rfl); go_simp) ?_
   refine tcH (i := 7) (v := .agg #[.int .i64 f.id, .int .i64 f.x, .int .i64 f.y, .int .i64 f.w, .int .i64 f.h, .int .i64 f.alpha, .int .i64 f.orient, .bool f.vis, .int .i64 f.bw, .int .i64 f.bh, d']) rfl (by intro w' hSw; (try dsimp only at hSw); (have a0 := hSw.c 0 _ rfl); (rw [Nat.add_zero] at a0); (have a1 := hSw.c 1 _ rfl); (have a2 := hSw.c 2 _ rfl); (have a3 := hSw.c 3 _ rfl); (have a4 := hSw.c 4 _ rfl); (have a5 := hSw.c 5 _ rfl); (have a6 := hSw.c 6 _ rfl); (have a7 := hSw.c 7 _ rfl); (have a8 := hSw.c 8 _ rfl); (have a9 := hSw.c 9 _ rfl); (have a10 := hSw.c 10 _ rfl); (have b0 := hSw.c' 0 _ rfl); (rw [Nat.add_zero] at b0); (have b1 := hSw.c' 1 _ rfl); (have b2 := hSw.c' 2 _ rfl); (have b3 := hSw.c' 3 _ rfl); (have b4 := hSw.c' 4 _ rfl); (have b5 := hSw.c' 5 _ rfl); (have b6 := hSw.c' 6 _ rfl); (have b7 := hSw.c' 7 _ rfl); (have b8 := hSw.c' 8 _ rfl); (have b9 := hSw.c' 9 _ rfl); (have b10 := hSw.c' 10 _ rfl); go_simp) ?_
   (try simp only [Act.put]); (try simp only [zPa]); (try simp only [zPb, zPc])
   refine wpAnyH_ready (rs := [8]) (by kernel_rfl) (by simp) ?_
   refine (AllReadyH.cons rfl (fun K hK => ?_) AllReadyH.nil)
   ·rw [if_pos (by kernel_rfl)]
    (try simp only [zGa]); (try simp only [zGb]); (try simp only [zGc])
    go_simp
    with_reducible refine (eq_sf f d d' b b' _ hS.r hS.r').mono ?_
    rintro e W' ⟨rfl, hb⟩
    dsimp only
    refine hK.out _ _ (hS.call hb) (fun hS => ?_)
    clear hK
    (try simp only [Act.put]); (try simp only [zPa]); (try simp only [zPb, zPc])
    refine tcH (i := 9) (v := .bool false) rfl (by intro w' hSw; (try dsimp only at hSw); (have a0 := hSw.c 0 _ rfl); (rw [Nat.add_zero] at a0); (have a1 := hSw.c 1 _ rfl); (have a2 := hSw.c 2 _ rfl); (have a3 := hSw.c 3 _ rfl); (have a4 := hSw.c 4 _ rfl); (have a5 := hSw.c 5 _ rfl); (have a6 := hSw.c 6 _ rfl); (have a7 := hSw.c 7 _ rfl); (have a8 := hSw.c 8 _ rfl); (have a9 := hSw.c 9 _ rfl); (have a10 := hSw.c 10 _ rfl); (have b0 := hSw.c' 0 _ rfl); (rw [Nat.add_zero] at b0); (have b1 := hSw.c' 1 _ rfl); (have b2 := hSw.c' 2 _ rfl); (have b3 := hSw.c' 3 _ rfl); (have b4 := hSw.c' 4 _ rfl); (have b5 := hSw.c' 5 _ rfl); (have b6 := hSw.c' 6 _ rfl); (have b7 := hSw.c' 7 _ rfl); (have b8 := hSw.c' 8 _ rfl); (have b9 := hSw.c' 9 _ rfl); (have b10 := hSw.c' 10 _ rfl); go_simp) ?_
    refine wpAnyH_done (by kernel_rfl) ?_ _
    go_wp2_with fail
    go_roundw
    case rel => exact ⟨k + 1, by omega, by go_num, Lib.hid hS.bw⟩
    case measure => simp [intOf]; omega
  ·obtain rfl : k = n := by omega
   go_wp2_with fail
   go_ret
   exact ⟨rfl, HB.out⟩
set_option maxHeartbeats 1000000 in
set_option maxRecDepth 10000 in
theorem eq_sn (f : Sn) (d u : Value) (bs cs : List Nat) (w : World) (h1 : repSn.R w f [.int .i64 f.w, .int .i64 f.h, .int .i64 f.back, d] bs) (h2 : repSn.R w f [.int .i64 f.w, .int .i64 f.h, .int .i64 f.back, u] cs) : Calls Try.prog 18 #[.agg #[.int .i64 f.w, .int .i64 f.h, .int .i64 f.back, d], .agg #[.int .i64 f.w, .int .i64 f.h, .int .i64 f.back, u]] w fun e w' => e = .returned (.bool true) ∧ Below w.heap.size w w' := by
 have HB := Lib.hid (belI_call (belI_box w (.cells #[.int .i64 f.w, .int .i64 f.h, .int .i64 f.back, d] 36)) (belI_box _ (.cells #[.int .i64 f.w, .int .i64 f.h, .int .i64 f.back, u] 36)))
 have H1 := Lib.hid (Rep.call (r_sn h1) HB.out)
 have H2 := Lib.hid (Rep.call (r_sn h2) HB.out)
 obtain ⟨A, c, rfl⟩ := form_sn h1
 obtain ⟨A', c', rfl⟩ := form_sn h2
 clear h1 h2
 go_enter Try.func18, Try.ntmps18
 go_wp2_with fail
 refine (eqFs_same f.fs _ _ _ _ _ H1.out H2.out).mono ?_
 rintro e w1 ⟨rfl, hb⟩
 go_wp2_with fail
 go_ret
 exact ⟨rfl, belI_call HB.out hb⟩
set_option maxHeartbeats 1000000 in
theorem sz_sn_yes (f : Sn) (d : Value) (l : Int) (w : World) (hr : wkSn.R w f [.int .i64 f.w, .int .i64 f.h, .int .i64 f.back, d]) (h : (((sizFs f.fs) : Nat) : Int) ≤ l) (hl : l ≤ 2097152) : Calls Try.prog 14 #[.agg #[.int .i64 f.w, .int .i64 f.h, .int .i64 f.back, d], .int .i64 l] w fun e w' => e = .returned (.int .i64 (l - (((sizFs f.fs) : Nat) : Int))) ∧ Below w.heap.size w w' := by
 have HB := Lib.hid (belI_box w (.cells #[.int .i64 f.w, .int .i64 f.h, .int .i64 f.back, d] 27))
 have H1 := Lib.hid (wkSfs.call (wr_sn hr) HB.out)
 obtain ⟨A, c, rfl⟩ := wform_sn hr
 have h1 : ¬ (l - (((sizFs f.fs) : Nat) : Int) < 0) := by omega
 clear hr
 go_enter Try.func14, Try.ntmps14
 go_wp2_with fail
 refine (szFs_yes f.fs _ l _ H1.out h hl).mono ?_
 rintro e w1 ⟨rfl, hb⟩
 go_wp2_with fail
 go_ret
 exact ⟨rfl, belI_call HB.out hb⟩
set_option maxHeartbeats 1000000 in
theorem sz_sn_no (f : Sn) (d : Value) (l : Int) (w : World) (hr : wkSn.R w f [.int .i64 f.w, .int .i64 f.h, .int .i64 f.back, d]) (h0 : 0 ≤ l) (h : l < (((sizFs f.fs) : Nat) : Int)) (hl : l ≤ 2097152) : Calls Try.prog 14 #[.agg #[.int .i64 f.w, .int .i64 f.h, .int .i64 f.back, d], .int .i64 l] w fun e w' => e = .returned (.int .i64 (-1)) ∧ Below w.heap.size w w' := by
 have HB := Lib.hid (belI_box w (.cells #[.int .i64 f.w, .int .i64 f.h, .int .i64 f.back, d] 27))
 have H1 := Lib.hid (wkSfs.call (wr_sn hr) HB.out)
 obtain ⟨A, c, rfl⟩ := wform_sn hr
 clear hr
 go_enter Try.func14, Try.ntmps14
 go_wp2_with fail
 refine (szFs_no f.fs _ l _ H1.out h0 h hl).mono ?_
 rintro e w1 ⟨rfl, hb⟩
 go_wp2_with fail
 go_ret
 exact ⟨rfl, belI_call HB.out hb⟩
end Go.Proofs.Ytnndifemkichmaa
