/- The walk of the law FnDithered: it returns true for every code. -/
import Derived.Test.YtaggldhlnjbnhaaBase
import Derived.Test.YtaggldhlnjbnhaaRd
import Derived.Test.YtaggldhlnjbnhaaIntR
import Derived.Test.YtaggldhlnjbnhaaImR
import Derived.Test.YtaggldhlnjbnhaaPixM
import Derived.Test.YtaggldhlnjbnhaaImO
import Derived.Test.YtaggldhlnjbnhaaDitM
import Derived.Test.YtaggldhlnjbnhaaImV
import Derived.Test.YtaggldhlnjbnhaaBlk4
import Derived.Test.YtaggldhlnjbnhaaRectEq
import Derived.Test.YtaggldhlnjbnhaaThr
import Derived.Test.YtaggldhlnjbnhaaThrC
import Derived.Test.YtaggldhlnjbnhaaPixS
import Derived.Test.YtaggldhlnjbnhaaPixA
import Derived.Test.YtaggldhlnjbnhaaDitC
import Derived.Test.YtaggldhlnjbnhaaBk
import Derived.Test.YtaggldhlnjbnhaaHasC
import Derived.Test.YtaggldhlnjbnhaaRds
import Derived.Test.YtaggldhlnjbnhaaImM
import Derived.Test.YtaggldhlnjbnhaaFilB
import Derived.Test.YtaggldhlnjbnhaaCrpB
import Derived.Test.YtaggldhlnjbnhaaSclB
import Derived.Test.YtaggldhlnjbnhaaDitI
import Derived.Test.YtaggldhlnjbnhaaLawS
import Derived.Test.YtaggldhlnjbnhaaCurC
import Derived.Test.YtaggldhlnjbnhaaBig
import Derived.Test.YtaggldhlnjbnhaaDrwI
import Derived.Test.YtaggldhlnjbnhaaProg
import Derived.WalkKit
import Derived.ProofKit
import Derived.OpenShut
import Derived.WalkLawsBesides
import Derived.WalkSpells
import Derived.ShutString
import Derived.ChangeOld
import Derived.Below
import Derived.Lib.Hide
import Derived.BigQuiet
import Derived.Deep.QuietTactic
import Derived.Maps.AppendAt
import Derived.Handy
import Derived.Deep.OwnRows
import Derived.Laws.BitsAllLaws
import Derived.Lib.QuoteBits
import Derived.Deep.Draws
import Derived.OwnWalk
import Derived.Deep.AppendLies
import Derived.Deep.LoopGhost
import Derived.Deep.Onto
import Derived.Test.YtaggldhlnjbnhaaShelf
import Derived.Laws.CopyOwn
import Derived.Deep.RegionLaw
import Derived.Deep.RegionHeld3
import Derived.Deep.DeepCutAuto
import Derived.Great.BuildSlice
import Derived.Deep.MidRow
import Derived.Deep.WholeRow
import Derived.Laws.AppendOwn
import Derived.Carry
import Derived.Maps.Own
namespace Go.Proofs.Ytaggldhlnjbnhaa
open Go.RowKit
/-- The drawn image's box and the dithered list. -/
structure DhS (w : World) (lo hi bi : Nat) (X Y : Int) (u : Value) (L : List Int) (lo2 hi2 : Nat) (v : Value) (M : List Int) (V : World) : Prop where
  i : ImV lo hi bi X Y u L V
  l : IsV lo2 hi2 v M V
  bw : Below w.heap.size w V
theorem DhS.call {w : World} {lo hi bi : Nat} {X Y : Int} {u : Value} {L : List Int} {lo2 hi2 : Nat} {v : Value} {M : List Int} {V V' : World} (h : DhS w lo hi bi X Y u L lo2 hi2 v M V) (k : Below V.heap.size V V') : DhS w lo hi bi X Y u L lo2 hi2 v M V' := ⟨h.i.call k, h.l.call k, belI_call h.bw k⟩
set_option maxHeartbeats 4000000 in
set_option maxRecDepth 10000 in
theorem walk_FnDithered (a0 : Option Addr) (len cap : Nat) (zs : List Int) (w : World) (hrow : IsRow .u8 w a0 len cap zs) :
    Calls Try.prog 4 #[.slice a0 len cap] w fun e w' => e = .returned (.bool true) ∧ Below w.heap.size w w' := by
  by_cases hbig : len ≤ 1048576
  rotate_left
  · go_enter Try.func4, Try.ntmps4
    go_wp2_with fail
    refine (big_yes _ _ _ _ (by omega)).mono ?_
    rintro e w1 ⟨rfl, rfl⟩
    go_wp2_with fail
    go_ret
    exact ⟨rfl, Below.refl _ _⟩
  go_enter Try.func4, Try.ntmps4
  go_wp2_with fail
  refine (big_no _ _ _ _ hbig).mono ?_
  rintro e w1 ⟨rfl, rfl⟩
  go_wp2_with fail
  refine (drawImage_any _ _ _ _ zs hrow).mono ?_
  rintro e w1 ⟨X, Y, L, u, rfl, ho, hX, hY, hown, K⟩
  obtain ⟨W, H, rfl, rfl, wl, wh, hl, hh, hL⟩ := im_nat ho
  clear hrow hbig
  have hn1 : 1 ≤ L.length := by rw [hL]; exact Nat.mul_pos wl hl
  obtain ⟨gi, ci, he, _, _⟩ := hown.form (by omega)
  subst he
  have Vi := ImV.born (X := (W : Int)) (Y := (H : Int)) K hown
  replace K := belI_call K (belI_box w1 (.cells #[.int .i64 (W : Int), .int .i64 (H : Int), .slice (some ⟨gi, 0, none⟩) L.length ci] 28))
  obtain ⟨bi, hbi⟩ : ∃ b, b = w1.heap.size := ⟨_, rfl⟩
  obtain ⟨wi, hwi⟩ : ∃ V, V = w1.alloc (.cells #[.int .i64 (W : Int), .int .i64 (H : Int), .slice (some ⟨gi, 0, none⟩) L.length ci] 28) := ⟨_, rfl⟩
  rw [← hwi, ← hbi] at Vi
  rw [← hwi] at K
  have HWi := Lib.hid hwi
  have HBi := Lib.hid hbi
  clear hwi hbi hown
  have hA := ditA_nat ho
  have hfil := ditL_fill ho
  rw [← ditA_yes ho] at hfil
  obtain ⟨M, hM⟩ : ∃ M, M = ditA (W : Int) (H : Int) L := ⟨_, rfl⟩
  rw [← hM] at hA hfil
  have hMl : M.length = L.length := by rw [hA, tabI_length, hL]
  have hn256 : L.length ≤ 256 := by rw [hL]; exact mul_256 wh hh
  have PD := fun (V : World) u h => dimI (W : Int) (H : Int) u L V h
  unfold AnsIs at PD
  rw [← hM, hMl] at PD
  have PP := fun (V : World) u h => pokI (W : Int) (H : Int) u M V h
  rw [fillB_yes hfil] at PP
  have eWH : (W : Int) * (H : Int) = (L.length : Int) := by rw [hL]; simp
  obtain ⟨n, hn⟩ : ∃ n, n = L.length := ⟨_, rfl⟩
  rw [← hn] at Vi hn1 hMl hn256 PD eWH
  obtain ⟨lo, hlo⟩ : ∃ x, x = w.heap.size := ⟨_, rfl⟩
  obtain ⟨hi, hhi⟩ : ∃ x, x = bi + 1 := ⟨_, rfl⟩
  rw [← hlo, ← hhi] at Vi
  have Hn := Lib.hid hn
  have HA := Lib.hid hA
  have HMl := Lib.hid hMl
  have HPD := Lib.hid PD
  have HPP := Lib.hid PP
  have Ho := Lib.hid ho
  clear hlo hhi hA hM hMl PD PP ho hfil hL hX hY hn
  go_upto_region 4 with fail
  rw [← HWi.out, ← HBi.out, ← Hn.out]
  clear HWi HBi
  obtain ⟨i0, i1, i2⟩ := Vi.cells
  go_wp2_with fail
  refine (HPD.out _ _ Vi.rd).mono ?_
  rintro e w2 ⟨v, rfl, hown, hb⟩
  obtain ⟨gl, cl, he, _, _⟩ := hown.form (by omega)
  subst he
  rw [← HMl.out] at hown
  have G := IsV.born hown
  obtain ⟨lo2, hlo2⟩ : ∃ x, x = wi.heap.size := ⟨_, rfl⟩
  obtain ⟨hi2, hhi2⟩ : ∃ x, x = w2.heap.size := ⟨_, rfl⟩
  rw [← hlo2, ← hhi2, HMl.out] at G
  have HS := Lib.hid (show DhS w lo hi bi W H (.slice (some ⟨gi, 0, none⟩) n ci) L lo2 hi2 (.slice (some ⟨gl, 0, none⟩) n cl) M w2 from ⟨Vi.call hb, G, belI_call K hb⟩)
  clear hown hb G i0 i1 i2 Vi K hlo2 hhi2
  obtain ⟨i0, i1, i2⟩ := HS.out.i.cells
  go_wp2_with fail
  refine (HPP.out _ _ HS.out.l.rd).mono ?_
  rintro e w3 ⟨rfl, rfl⟩
  go_wp2_with fail
  go_loopg [5] n (fun g s wr => ∃ (k : Nat) (V : World), V = wr ∧ k ≤ n ∧ g = n - k ∧ s = .int .i64 k ∧ Hid (DhS w lo hi bi W H (.slice (some ⟨gi, 0, none⟩) n ci) L lo2 hi2 (.slice (some ⟨gl, 0, none⟩) n cl) M V))
  case atStart => exact ⟨0, _, rfl, by omega, by omega, rfl, HS⟩
  case round =>
    clear HS i0 i1 i2
    obtain ⟨k, wx, hV, hk2, rfl, rfl, HS⟩ := hrel
    subst hV
    by_cases hkl : k < n
    · have hki : (k : Int) < (n : Int) := by omega
      have k0 : (0 : Int) ≤ (k : Int) := by omega
      obtain ⟨z, hz⟩ : ∃ z, L[k]? = some z := ⟨_, List.getElem?_eq_getElem (by rw [← Hn.out]; exact hkl)⟩
      have hpz : pixOk z := Ho.out.2.2 k z hz
      obtain ⟨x, hx⟩ : ∃ x, x = k % W := ⟨_, rfl⟩
      obtain ⟨y, hy⟩ : ∃ y, y = k / W := ⟨_, rfl⟩
      have hW0 : ¬ W = 0 := by omega
      have tx1 : (k : Int) % (W : Int) = (x : Int) := by rw [hx]; simp
      have ty1 : (k : Int) / (W : Int) = (y : Int) := by rw [hy]; simp
      have tx : Int.tmod (k : Int) (W : Int) = (x : Int) := by rw [Int.tmod_eq_emod_of_nonneg (by omega), tx1]
      have ty : Int.tdiv (k : Int) (W : Int) = (y : Int) := by rw [Int.tdiv_eq_ediv_of_nonneg (by omega), ty1]
      have hyk : y ≤ k := by rw [hy]; exact Nat.div_le_self _ _
      have hxk : x < W := by rw [hx]; exact Nat.mod_lt _ (by omega)
      have wyy : IntKind.i64.wrap (y : Int) = (y : Int) := IntWalk.i64_in _ (by omega)
      obtain ⟨d, hd⟩ : ∃ d, d = dotV z x y := ⟨_, rfl⟩
      obtain ⟨l, hlv⟩ : ∃ l, l = levV (z / 256 % 256) x y := ⟨_, rfl⟩
      obtain ⟨ch, hch⟩ : ∃ c, c = z / 256 % 256 := ⟨_, rfl⟩
      have HDd : Hid (M[k]? = some d) := Lib.hid (by
        rw [HA.out, tabI_get _ _ k (by have := HMl.out; rw [HA.out, tabI_length] at this; omega), hd]
        unfold ditF; rw [tx1, ty1, List.getD_eq_getElem?_getD, hz]; rfl)
      have HLv := fun V => lofI d 1 V
      rw [hd, levelV_dot1 hpz, ← hd, ← hlv] at HLv
      have HCh := fun V => chS_in z 2 hpz (by omega) (by omega) V
      rw [chan_2 hpz, ← hch] at HCh
      have HDl := fun V => dleI ch x y V
      rw [← hch] at hlv
      rw [← hlv] at HDl
      have HDp := fun V => dpxI z x y V
      rw [← hd] at HDp
      have HLv := Lib.hid HLv
      have HCh := Lib.hid HCh
      have HDl := Lib.hid HDl
      have HDp := Lib.hid HDp
      have HZ := Lib.hid hz
      clear hz hx hy hd hlv hch hpz
      obtain ⟨i0, i1, i2⟩ := HS.out.i.cells
      go_upto_region 10 with fail
      clear i0 i1 i2
      refine wp_region_held_drew (S := fun V => DhS w lo hi bi W H (.slice (some ⟨gi, 0, none⟩) n ci) L lo2 hi2 (.slice (some ⟨gl, 0, none⟩) n cl) M V) (by kernel_rfl) (HS.out.call (Below.refl _ _).drew) (fun hS => ?_)
      refine wpAnyH_take (i := 0) (v := .slice (some ⟨gl, 0, none⟩) n cl) rfl (by kernel_rfl) (by kernel_rfl) (by kernel_rfl) (fun _ _ _ h => h) (Or.inl ⟨by kernel_rfl, by intro w' hSw; (try dsimp only at hSw); (obtain ⟨i0, i1, i2⟩ := hSw.i.cells); (have zc := hSw.i.rd.cell HZ.out); (have dc := hSw.l.rd.cell HDd.out); go_simp⟩) (by assumption) ?_
      refine wpAnyH_take (i := 1) (v := .int .i64 (k : Int)) rfl (by kernel_rfl) (by kernel_rfl) (by kernel_rfl) (fun _ _ _ h => h) (Or.inl ⟨by kernel_rfl, by intro w' hSw; (try dsimp only at hSw); (obtain ⟨i0, i1, i2⟩ := hSw.i.cells); (have zc := hSw.i.rd.cell HZ.out); (have dc := hSw.l.rd.cell HDd.out); go_simp⟩) (by assumption) ?_
      refine wpAnyH_take (i := 2) (v := .pointer (some ⟨gl, k, none⟩)) rfl (by kernel_rfl) (by kernel_rfl) (by kernel_rfl) (fun _ _ _ h => h) (Or.inl ⟨by kernel_rfl, by intro w' hSw; (try dsimp only at hSw); (obtain ⟨i0, i1, i2⟩ := hSw.i.cells); (have zc := hSw.i.rd.cell HZ.out); (have dc := hSw.l.rd.cell HDd.out); go_simp⟩) (by assumption) ?_
      refine wpAnyH_take (i := 3) (v := .int .i64 (d : Int)) rfl (by kernel_rfl) (by kernel_rfl) (by kernel_rfl) (fun _ _ _ h => h) (Or.inl ⟨by kernel_rfl, by intro w' hSw; (try dsimp only at hSw); (obtain ⟨i0, i1, i2⟩ := hSw.i.cells); (have zc := hSw.i.rd.cell HZ.out); (have dc := hSw.l.rd.cell HDd.out); go_simp⟩) (by assumption) ?_
      refine wpAnyH_take (i := 5) (v := .pointer (some ⟨bi, 2, none⟩)) rfl (by kernel_rfl) (by kernel_rfl) (by kernel_rfl) (fun _ _ _ h => h) (Or.inl ⟨by kernel_rfl, by intro w' hSw; (try dsimp only at hSw); (obtain ⟨i0, i1, i2⟩ := hSw.i.cells); (have zc := hSw.i.rd.cell HZ.out); (have dc := hSw.l.rd.cell HDd.out); go_simp⟩) (by assumption) ?_
      refine wpAnyH_take (i := 6) (v := .slice (some ⟨gi, 0, none⟩) n ci) rfl (by kernel_rfl) (by kernel_rfl) (by kernel_rfl) (fun _ _ _ h => h) (Or.inl ⟨by kernel_rfl, by intro w' hSw; (try dsimp only at hSw); (obtain ⟨i0, i1, i2⟩ := hSw.i.cells); (have zc := hSw.i.rd.cell HZ.out); (have dc := hSw.l.rd.cell HDd.out); go_simp⟩) (by assumption) ?_
      refine wpAnyH_take (i := 7) (v := .int .i64 (k : Int)) rfl (by kernel_rfl) (by kernel_rfl) (by kernel_rfl) (fun _ _ _ h => h) (Or.inl ⟨by kernel_rfl, by intro w' hSw; (try dsimp only at hSw); (obtain ⟨i0, i1, i2⟩ := hSw.i.cells); (have zc := hSw.i.rd.cell HZ.out); (have dc := hSw.l.rd.cell HDd.out); go_simp⟩) (by assumption) ?_
      refine wpAnyH_take (i := 8) (v := .pointer (some ⟨gi, k, none⟩)) rfl (by kernel_rfl) (by kernel_rfl) (by kernel_rfl) (fun _ _ _ h => h) (Or.inl ⟨by kernel_rfl, by intro w' hSw; (try dsimp only at hSw); (obtain ⟨i0, i1, i2⟩ := hSw.i.cells); (have zc := hSw.i.rd.cell HZ.out); (have dc := hSw.l.rd.cell HDd.out); go_simp⟩) (by assumption) ?_
      refine wpAnyH_take (i := 9) (v := .int .i64 (z : Int)) rfl (by kernel_rfl) (by kernel_rfl) (by kernel_rfl) (fun _ _ _ h => h) (Or.inl ⟨by kernel_rfl, by intro w' hSw; (try dsimp only at hSw); (obtain ⟨i0, i1, i2⟩ := hSw.i.cells); (have zc := hSw.i.rd.cell HZ.out); (have dc := hSw.l.rd.cell HDd.out); go_simp⟩) (by assumption) ?_
      refine wpAnyH_take (i := 11) (v := .int .i64 (k : Int)) rfl (by kernel_rfl) (by kernel_rfl) (by kernel_rfl) (fun _ _ _ h => h) (Or.inl ⟨by kernel_rfl, by intro w' hSw; (try dsimp only at hSw); (obtain ⟨i0, i1, i2⟩ := hSw.i.cells); (have zc := hSw.i.rd.cell HZ.out); (have dc := hSw.l.rd.cell HDd.out); go_simp⟩) (by assumption) ?_
      refine wpAnyH_take (i := 12) (v := .pointer (some ⟨bi, 0, none⟩)) rfl (by kernel_rfl) (by kernel_rfl) (by kernel_rfl) (fun _ _ _ h => h) (Or.inl ⟨by kernel_rfl, by intro w' hSw; (try dsimp only at hSw); (obtain ⟨i0, i1, i2⟩ := hSw.i.cells); (have zc := hSw.i.rd.cell HZ.out); (have dc := hSw.l.rd.cell HDd.out); go_simp⟩) (by assumption) ?_
      refine wpAnyH_take (i := 13) (v := .int .i64 (W : Int)) rfl (by kernel_rfl) (by kernel_rfl) (by kernel_rfl) (fun _ _ _ h => h) (Or.inl ⟨by kernel_rfl, by intro w' hSw; (try dsimp only at hSw); (obtain ⟨i0, i1, i2⟩ := hSw.i.cells); (have zc := hSw.i.rd.cell HZ.out); (have dc := hSw.l.rd.cell HDd.out); go_simp⟩) (by assumption) ?_
      refine wpAnyH_take (i := 14) (v := .int .i64 (x : Int)) rfl (by kernel_rfl) (by kernel_rfl) (by kernel_rfl) (fun _ _ _ h => h) (Or.inl ⟨by kernel_rfl, by intro w' hSw; (try dsimp only at hSw); (obtain ⟨i0, i1, i2⟩ := hSw.i.cells); (have zc := hSw.i.rd.cell HZ.out); (have dc := hSw.l.rd.cell HDd.out); go_simp⟩) (by assumption) ?_
      refine wpAnyH_take (i := 15) (v := .int .i64 (k : Int)) rfl (by kernel_rfl) (by kernel_rfl) (by kernel_rfl) (fun _ _ _ h => h) (Or.inl ⟨by kernel_rfl, by intro w' hSw; (try dsimp only at hSw); (obtain ⟨i0, i1, i2⟩ := hSw.i.cells); (have zc := hSw.i.rd.cell HZ.out); (have dc := hSw.l.rd.cell HDd.out); go_simp⟩) (by assumption) ?_
      refine wpAnyH_take (i := 16) (v := .pointer (some ⟨bi, 0, none⟩)) rfl (by kernel_rfl) (by kernel_rfl) (by kernel_rfl) (fun _ _ _ h => h) (Or.inl ⟨by kernel_rfl, by intro w' hSw; (try dsimp only at hSw); (obtain ⟨i0, i1, i2⟩ := hSw.i.cells); (have zc := hSw.i.rd.cell HZ.out); (have dc := hSw.l.rd.cell HDd.out); go_simp⟩) (by assumption) ?_
      refine wpAnyH_take (i := 17) (v := .int .i64 (W : Int)) rfl (by kernel_rfl) (by kernel_rfl) (by kernel_rfl) (fun _ _ _ h => h) (Or.inl ⟨by kernel_rfl, by intro w' hSw; (try dsimp only at hSw); (obtain ⟨i0, i1, i2⟩ := hSw.i.cells); (have zc := hSw.i.rd.cell HZ.out); (have dc := hSw.l.rd.cell HDd.out); go_simp⟩) (by assumption) ?_
      refine wpAnyH_take (i := 18) (v := .int .i64 (y : Int)) rfl (by kernel_rfl) (by kernel_rfl) (by kernel_rfl) (fun _ _ _ h => h) (Or.inl ⟨by kernel_rfl, by intro w' hSw; (try dsimp only at hSw); (obtain ⟨i0, i1, i2⟩ := hSw.i.cells); (have zc := hSw.i.rd.cell HZ.out); (have dc := hSw.l.rd.cell HDd.out); go_simp⟩) (by assumption) ?_
      (try simp only [Act.put]); (try simp only [List.setIfInBounds_toArray]); (try simp only [List.set_cons_zero, List.set_cons_succ])
      refine wpAnyH_ready (rs := [4]) (by kernel_rfl) (by simp) ?_
      refine (AllReadyH.cons rfl (fun K hK => ?_) AllReadyH.nil)
      · rw [if_pos (by kernel_rfl)]
        (try simp only [List.getElem_toArray]); (try simp only [List.getElem_cons_succ]); (try simp only [List.getElem_cons_zero])
        go_simp
        with_reducible refine (HLv.out _).mono ?_
        rintro e W' ⟨rfl, rfl⟩
        dsimp only
        refine hK.out _ _ (hS) (fun hS => ?_)
        clear hK
        (try simp only [Act.put]); (try simp only [List.setIfInBounds_toArray]); (try simp only [List.set_cons_zero, List.set_cons_succ])
        refine wpAnyH_ready (rs := [10]) (by kernel_rfl) (by simp) ?_
        refine (AllReadyH.cons rfl (fun K hK => ?_) AllReadyH.nil)
        · rw [if_pos (by kernel_rfl)]
          (try simp only [List.getElem_toArray]); (try simp only [List.getElem_cons_succ]); (try simp only [List.getElem_cons_zero])
          go_simp
          with_reducible refine (HCh.out _).mono ?_
          rintro e W' ⟨rfl, rfl⟩
          dsimp only
          refine hK.out _ _ (hS) (fun hS => ?_)
          clear hK
          (try simp only [Act.put]); (try simp only [List.setIfInBounds_toArray]); (try simp only [List.set_cons_zero, List.set_cons_succ])
          refine wpAnyH_ready (rs := [19]) (by kernel_rfl) (by simp) ?_
          refine (AllReadyH.cons rfl (fun K hK => ?_) AllReadyH.nil)
          · rw [if_pos (by kernel_rfl)]
            (try simp only [List.getElem_toArray]); (try simp only [List.getElem_cons_succ]); (try simp only [List.getElem_cons_zero])
            go_simp
            with_reducible refine (HDl.out _).mono ?_
            rintro e W' ⟨rfl, hb⟩
            dsimp only
            refine hK.out _ _ (hS.call hb) (fun hS => ?_)
            clear hK
            (try simp only [Act.put]); (try simp only [List.setIfInBounds_toArray]); (try simp only [List.set_cons_zero, List.set_cons_succ])
            refine wpAnyH_take (i := 20) (v := .bool false) rfl (by kernel_rfl) (by kernel_rfl) (by kernel_rfl) (fun _ _ _ h => h) (Or.inl ⟨by kernel_rfl, by intro w' hSw; (try dsimp only at hSw); (obtain ⟨i0, i1, i2⟩ := hSw.i.cells); (have zc := hSw.i.rd.cell HZ.out); (have dc := hSw.l.rd.cell HDd.out); go_simp⟩) (by assumption) ?_
            refine wpAnyH_take (i := 21) (v := .bool false) rfl (by kernel_rfl) (by kernel_rfl) (by kernel_rfl) (fun _ _ _ h => h) (Or.inl ⟨by kernel_rfl, by intro w' hSw; (try dsimp only at hSw); (obtain ⟨i0, i1, i2⟩ := hSw.i.cells); (have zc := hSw.i.rd.cell HZ.out); (have dc := hSw.l.rd.cell HDd.out); go_simp⟩) (by assumption) ?_
            refine wpAnyH_take (i := 22) (v := .slice (some ⟨gl, 0, none⟩) n cl) rfl (by kernel_rfl) (by kernel_rfl) (by kernel_rfl) (fun _ _ _ h => h) (Or.inl ⟨by kernel_rfl, by intro w' hSw; (try dsimp only at hSw); (obtain ⟨i0, i1, i2⟩ := hSw.i.cells); (have zc := hSw.i.rd.cell HZ.out); (have dc := hSw.l.rd.cell HDd.out); go_simp⟩) (by assumption) ?_
            refine wpAnyH_take (i := 23) (v := .int .i64 (k : Int)) rfl (by kernel_rfl) (by kernel_rfl) (by kernel_rfl) (fun _ _ _ h => h) (Or.inl ⟨by kernel_rfl, by intro w' hSw; (try dsimp only at hSw); (obtain ⟨i0, i1, i2⟩ := hSw.i.cells); (have zc := hSw.i.rd.cell HZ.out); (have dc := hSw.l.rd.cell HDd.out); go_simp⟩) (by assumption) ?_
            refine wpAnyH_take (i := 24) (v := .pointer (some ⟨gl, k, none⟩)) rfl (by kernel_rfl) (by kernel_rfl) (by kernel_rfl) (fun _ _ _ h => h) (Or.inl ⟨by kernel_rfl, by intro w' hSw; (try dsimp only at hSw); (obtain ⟨i0, i1, i2⟩ := hSw.i.cells); (have zc := hSw.i.rd.cell HZ.out); (have dc := hSw.l.rd.cell HDd.out); go_simp⟩) (by assumption) ?_
            refine wpAnyH_take (i := 25) (v := .int .i64 (d : Int)) rfl (by kernel_rfl) (by kernel_rfl) (by kernel_rfl) (fun _ _ _ h => h) (Or.inl ⟨by kernel_rfl, by intro w' hSw; (try dsimp only at hSw); (obtain ⟨i0, i1, i2⟩ := hSw.i.cells); (have zc := hSw.i.rd.cell HZ.out); (have dc := hSw.l.rd.cell HDd.out); go_simp⟩) (by assumption) ?_
            refine wpAnyH_take (i := 26) (v := .pointer (some ⟨bi, 2, none⟩)) rfl (by kernel_rfl) (by kernel_rfl) (by kernel_rfl) (fun _ _ _ h => h) (Or.inl ⟨by kernel_rfl, by intro w' hSw; (try dsimp only at hSw); (obtain ⟨i0, i1, i2⟩ := hSw.i.cells); (have zc := hSw.i.rd.cell HZ.out); (have dc := hSw.l.rd.cell HDd.out); go_simp⟩) (by assumption) ?_
            refine wpAnyH_take (i := 27) (v := .slice (some ⟨gi, 0, none⟩) n ci) rfl (by kernel_rfl) (by kernel_rfl) (by kernel_rfl) (fun _ _ _ h => h) (Or.inl ⟨by kernel_rfl, by intro w' hSw; (try dsimp only at hSw); (obtain ⟨i0, i1, i2⟩ := hSw.i.cells); (have zc := hSw.i.rd.cell HZ.out); (have dc := hSw.l.rd.cell HDd.out); go_simp⟩) (by assumption) ?_
            refine wpAnyH_take (i := 28) (v := .int .i64 (k : Int)) rfl (by kernel_rfl) (by kernel_rfl) (by kernel_rfl) (fun _ _ _ h => h) (Or.inl ⟨by kernel_rfl, by intro w' hSw; (try dsimp only at hSw); (obtain ⟨i0, i1, i2⟩ := hSw.i.cells); (have zc := hSw.i.rd.cell HZ.out); (have dc := hSw.l.rd.cell HDd.out); go_simp⟩) (by assumption) ?_
            refine wpAnyH_take (i := 29) (v := .pointer (some ⟨gi, k, none⟩)) rfl (by kernel_rfl) (by kernel_rfl) (by kernel_rfl) (fun _ _ _ h => h) (Or.inl ⟨by kernel_rfl, by intro w' hSw; (try dsimp only at hSw); (obtain ⟨i0, i1, i2⟩ := hSw.i.cells); (have zc := hSw.i.rd.cell HZ.out); (have dc := hSw.l.rd.cell HDd.out); go_simp⟩) (by assumption) ?_
            refine wpAnyH_take (i := 30) (v := .int .i64 (z : Int)) rfl (by kernel_rfl) (by kernel_rfl) (by kernel_rfl) (fun _ _ _ h => h) (Or.inl ⟨by kernel_rfl, by intro w' hSw; (try dsimp only at hSw); (obtain ⟨i0, i1, i2⟩ := hSw.i.cells); (have zc := hSw.i.rd.cell HZ.out); (have dc := hSw.l.rd.cell HDd.out); go_simp⟩) (by assumption) ?_
            refine wpAnyH_take (i := 31) (v := .int .i64 (k : Int)) rfl (by kernel_rfl) (by kernel_rfl) (by kernel_rfl) (fun _ _ _ h => h) (Or.inl ⟨by kernel_rfl, by intro w' hSw; (try dsimp only at hSw); (obtain ⟨i0, i1, i2⟩ := hSw.i.cells); (have zc := hSw.i.rd.cell HZ.out); (have dc := hSw.l.rd.cell HDd.out); go_simp⟩) (by assumption) ?_
            refine wpAnyH_take (i := 32) (v := .pointer (some ⟨bi, 0, none⟩)) rfl (by kernel_rfl) (by kernel_rfl) (by kernel_rfl) (fun _ _ _ h => h) (Or.inl ⟨by kernel_rfl, by intro w' hSw; (try dsimp only at hSw); (obtain ⟨i0, i1, i2⟩ := hSw.i.cells); (have zc := hSw.i.rd.cell HZ.out); (have dc := hSw.l.rd.cell HDd.out); go_simp⟩) (by assumption) ?_
            refine wpAnyH_take (i := 33) (v := .int .i64 (W : Int)) rfl (by kernel_rfl) (by kernel_rfl) (by kernel_rfl) (fun _ _ _ h => h) (Or.inl ⟨by kernel_rfl, by intro w' hSw; (try dsimp only at hSw); (obtain ⟨i0, i1, i2⟩ := hSw.i.cells); (have zc := hSw.i.rd.cell HZ.out); (have dc := hSw.l.rd.cell HDd.out); go_simp⟩) (by assumption) ?_
            refine wpAnyH_take (i := 34) (v := .int .i64 (x : Int)) rfl (by kernel_rfl) (by kernel_rfl) (by kernel_rfl) (fun _ _ _ h => h) (Or.inl ⟨by kernel_rfl, by intro w' hSw; (try dsimp only at hSw); (obtain ⟨i0, i1, i2⟩ := hSw.i.cells); (have zc := hSw.i.rd.cell HZ.out); (have dc := hSw.l.rd.cell HDd.out); go_simp⟩) (by assumption) ?_
            refine wpAnyH_take (i := 35) (v := .int .i64 (k : Int)) rfl (by kernel_rfl) (by kernel_rfl) (by kernel_rfl) (fun _ _ _ h => h) (Or.inl ⟨by kernel_rfl, by intro w' hSw; (try dsimp only at hSw); (obtain ⟨i0, i1, i2⟩ := hSw.i.cells); (have zc := hSw.i.rd.cell HZ.out); (have dc := hSw.l.rd.cell HDd.out); go_simp⟩) (by assumption) ?_
            refine wpAnyH_take (i := 36) (v := .pointer (some ⟨bi, 0, none⟩)) rfl (by kernel_rfl) (by kernel_rfl) (by kernel_rfl) (fun _ _ _ h => h) (Or.inl ⟨by kernel_rfl, by intro w' hSw; (try dsimp only at hSw); (obtain ⟨i0, i1, i2⟩ := hSw.i.cells); (have zc := hSw.i.rd.cell HZ.out); (have dc := hSw.l.rd.cell HDd.out); go_simp⟩) (by assumption) ?_
            refine wpAnyH_take (i := 37) (v := .int .i64 (W : Int)) rfl (by kernel_rfl) (by kernel_rfl) (by kernel_rfl) (fun _ _ _ h => h) (Or.inl ⟨by kernel_rfl, by intro w' hSw; (try dsimp only at hSw); (obtain ⟨i0, i1, i2⟩ := hSw.i.cells); (have zc := hSw.i.rd.cell HZ.out); (have dc := hSw.l.rd.cell HDd.out); go_simp⟩) (by assumption) ?_
            refine wpAnyH_take (i := 38) (v := .int .i64 (y : Int)) rfl (by kernel_rfl) (by kernel_rfl) (by kernel_rfl) (fun _ _ _ h => h) (Or.inl ⟨by kernel_rfl, by intro w' hSw; (try dsimp only at hSw); (obtain ⟨i0, i1, i2⟩ := hSw.i.cells); (have zc := hSw.i.rd.cell HZ.out); (have dc := hSw.l.rd.cell HDd.out); go_simp⟩) (by assumption) ?_
            (try simp only [Act.put]); (try simp only [List.setIfInBounds_toArray]); (try simp only [List.set_cons_zero, List.set_cons_succ])
            refine wpAnyH_ready (rs := [39]) (by kernel_rfl) (by simp) ?_
            refine (AllReadyH.cons rfl (fun K hK => ?_) AllReadyH.nil)
            · rw [if_pos (by kernel_rfl)]
              (try simp only [List.getElem_toArray]); (try simp only [List.getElem_cons_succ]); (try simp only [List.getElem_cons_zero])
              go_simp
              with_reducible refine (HDp.out _).mono ?_
              rintro e W' ⟨rfl, hb⟩
              dsimp only
              refine hK.out _ _ (hS.call hb) (fun hS => ?_)
              clear hK
              (try simp only [Act.put]); (try simp only [List.setIfInBounds_toArray]); (try simp only [List.set_cons_zero, List.set_cons_succ])
              refine wpAnyH_take (i := 40) (v := .bool false) rfl (by kernel_rfl) (by kernel_rfl) (by kernel_rfl) (fun _ _ _ h => h) (Or.inl ⟨by kernel_rfl, by intro w' hSw; (try dsimp only at hSw); (obtain ⟨i0, i1, i2⟩ := hSw.i.cells); (have zc := hSw.i.rd.cell HZ.out); (have dc := hSw.l.rd.cell HDd.out); go_simp⟩) (by assumption) ?_
              refine wpAnyH_take (i := 41) (v := .bool false) rfl (by kernel_rfl) (by kernel_rfl) (by kernel_rfl) (fun _ _ _ h => h) (Or.inl ⟨by kernel_rfl, by intro w' hSw; (try dsimp only at hSw); (obtain ⟨i0, i1, i2⟩ := hSw.i.cells); (have zc := hSw.i.rd.cell HZ.out); (have dc := hSw.l.rd.cell HDd.out); go_simp⟩) (by assumption) ?_
              refine wpAnyH_done (by kernel_rfl) ?_ _
              go_wp2_with fail
              go_roundg (n - (k + 1))
              case measure => omega
              case rel => exact ⟨k + 1, _, rfl, by omega, by omega, by go_num, Lib.hid hS⟩
    · obtain rfl : k = n := by omega
      obtain ⟨i0, i1, i2⟩ := HS.out.i.cells
      go_wp2_with fail
      go_ret
      exact ⟨by simp, HS.out.bw⟩
end Go.Proofs.Ytaggldhlnjbnhaa
