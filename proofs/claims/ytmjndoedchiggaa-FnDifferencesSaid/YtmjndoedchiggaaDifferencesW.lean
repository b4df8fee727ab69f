/- The walk of the law FnDifferences: it returns true for every code. -/
import Derived.Test.YtmjndoedchiggaaMA
import Derived.Test.YtmjndoedchiggaaImR
import Derived.Test.YtmjndoedchiggaaImO
import Derived.Test.YtmjndoedchiggaaImL
import Derived.Test.YtmjndoedchiggaaImC
import Derived.Test.YtmjndoedchiggaaImD
import Derived.Test.YtmjndoedchiggaaImV
import Derived.Test.YtmjndoedchiggaaCpyB
import Derived.Test.YtmjndoedchiggaaCpyI
import Derived.Test.YtmjndoedchiggaaCpyJ
import Derived.Test.YtmjndoedchiggaaFilB
import Derived.Test.YtmjndoedchiggaaDifB
import Derived.Test.YtmjndoedchiggaaCrpB
import Derived.Test.YtmjndoedchiggaaSameIm
import Derived.Test.YtmjndoedchiggaaDfsM
import Derived.Test.YtmjndoedchiggaaLaw
import Derived.Test.YtmjndoedchiggaaDrwI
import Derived.Test.YtmjndoedchiggaaDifI
import Derived.Test.YtmjndoedchiggaaCrpI
import Derived.Test.YtmjndoedchiggaaProg
import Derived.WalkKit
import Derived.ProofKit
import Derived.OpenShut
import Derived.WalkLawsBesides
import Derived.WalkSpells
import Derived.ShutString
import Derived.ChangeOld
import Derived.Below
import Derived.Lib.Hide
import Derived.BigQuiet
import Derived.Deep.QuietTactic
import Derived.Maps.AppendAt
import Derived.Handy
import Derived.Deep.OwnRows
import Derived.Laws.BitsAllLaws
import Derived.Lib.QuoteBits
import Derived.Deep.Draws
import Derived.OwnWalk
import Derived.Deep.AppendLies
import Derived.Deep.LoopGhost
import Derived.Deep.Onto
import Derived.Test.YtmjndoedchiggaaShelf
import Derived.Laws.CopyOwn
import Derived.Deep.RegionLaw
import Derived.Deep.RegionHeld3
import Derived.Deep.DeepCutAuto
import Derived.Great.BuildSlice
import Derived.Deep.MidRow
import Derived.Deep.WholeRow
import Derived.Laws.AppendOwn
namespace Go.Proofs.Ytmjndoedchiggaa
open Go.RowKit
theorem row_callD {k : IntKind} {w w' : World} {a : Option Addr} {len cap : Nat} {zs : List Int} (h : IsRow k w a len cap zs) (hb : Below w.heap.size w w') : IsRow k w' a len cap zs :=
  h.of_same (fun x hx hp => hb.block _ (h.lt x hx hp))
set_option maxHeartbeats 1500000 in
set_option maxRecDepth 10000 in
theorem walk_FnDifferences (a : Option Addr) (len cap : Nat) (zs : List Int) (w : World) (hrow : IsRow .u8 w a len cap zs) :
    Calls Try.prog 3 #[.slice a len cap] w fun e w' => e = .returned (.bool true) ∧ Below w.heap.size w w' := by
  by_cases hbig : len ≤ 1048576
  rotate_left
  · go_enter Try.func3, Try.ntmps3
    go_wp2_with fail
    refine (big_yes _ _ _ _ (by omega)).mono ?_
    rintro e w1 ⟨rfl, rfl⟩
    go_wp2_with fail
    go_ret
    exact ⟨rfl, Below.refl _ _⟩
  go_enter Try.func3, Try.ntmps3
  go_wp2_with fail
  refine (big_no _ _ _ _ hbig).mono ?_
  rintro e w1 ⟨rfl, rfl⟩
  go_wp2_with fail
  refine (drawImage_any _ _ _ _ zs hrow).mono ?_
  rintro e w1 ⟨X, Y, L, v, rfl, ho, hX, hY, hown, K⟩
  obtain ⟨A, c, he⟩ := ownI_shape hown
  subst he
  have hR := row_callD hrow K
  have Vi := ImV.born (X := X) (Y := Y) K hown
  replace K := belI_call K (belI_box w1 (.cells #[.int .i64 X, .int .i64 Y, .slice A L.length c] 26))
  replace hR := row_callD hR (belI_box w1 (.cells #[.int .i64 X, .int .i64 Y, .slice A L.length c] 26))
  have Ho := Lib.hid ho
  clear hrow hbig hown ho
  obtain ⟨bi, hbi⟩ : ∃ b, b = w1.heap.size := ⟨_, rfl⟩
  obtain ⟨hi, hhi⟩ : ∃ b, b = w1.heap.size + 1 := ⟨_, rfl⟩
  obtain ⟨w4, hw4⟩ : ∃ W, W = w1.alloc (.cells #[.int .i64 X, .int .i64 Y, .slice A L.length c] 26) := ⟨_, rfl⟩
  rw [← hbi, ← hw4] at Vi
  rw [← hw4] at K hR
  obtain ⟨i0, i1, i2⟩ := Vi.cells
  go_upto_region 4 with fail
  clear i0 i1 i2
  rw [← hbi, ← hw4]
  clear hw4 hbi hhi
  go_cut [4] (fun s4 wx => ∃ (b hi : Nat) (A : Option Addr) (c : Nat) (M : List Int), s4 = .pointer (some ⟨b, 0, none⟩) ∧ Hid (imOk X Y M) ∧ ImV w4.heap.size hi b X Y (.slice A M.length c) M wx ∧ Below w4.heap.size w4 wx)
  case first =>
      refine wp_region_held_drew (S := fun W => Below w4.heap.size w4 W) (by kernel_rfl) (Below.refl _ _).drew (fun hS => ?_)
      refine wpAnyH_take (i := 0) (v := .agg #[.int .i64 X, .int .i64 Y, .slice A L.length c]) rfl (by kernel_rfl) (by kernel_rfl) (by kernel_rfl) (fun _ _ _ h => h) (Or.inl ⟨by kernel_rfl, by intro w' hSw; (try dsimp only at hSw); (obtain ⟨i0, i1, i2⟩ := (Vi.call hSw).cells); go_simp⟩) (by assumption) ?_
      refine wpAnyH_take (i := 1) (v := .slice a len cap) rfl (by kernel_rfl) (by kernel_rfl) (by kernel_rfl) (fun _ _ _ h => h) (Or.inl ⟨by kernel_rfl, by intro w' hSw; (try dsimp only at hSw); (obtain ⟨i0, i1, i2⟩ := (Vi.call hSw).cells); go_simp⟩) (by assumption) ?_
      refine wpAnyH_take (i := 4) (v := .slice a len cap) rfl (by kernel_rfl) (by kernel_rfl) (by kernel_rfl) (fun _ _ _ h => h) (Or.inl ⟨by kernel_rfl, by intro w' hSw; (try dsimp only at hSw); (obtain ⟨i0, i1, i2⟩ := (Vi.call hSw).cells); go_simp⟩) (by assumption) ?_
      refine wpAnyH_take (i := 7) (v := .slice a len cap) rfl (by kernel_rfl) (by kernel_rfl) (by kernel_rfl) (fun _ _ _ h => h) (Or.inl ⟨by kernel_rfl, by intro w' hSw; (try dsimp only at hSw); (obtain ⟨i0, i1, i2⟩ := (Vi.call hSw).cells); go_simp⟩) (by assumption) ?_
      refine wpAnyH_take (i := 10) (v := .slice a len cap) rfl (by kernel_rfl) (by kernel_rfl) (by kernel_rfl) (fun _ _ _ h => h) (Or.inl ⟨by kernel_rfl, by intro w' hSw; (try dsimp only at hSw); (obtain ⟨i0, i1, i2⟩ := (Vi.call hSw).cells); go_simp⟩) (by assumption) ?_
      refine wpAnyH_take (i := 14) (v := .slice a len cap) rfl (by kernel_rfl) (by kernel_rfl) (by kernel_rfl) (fun _ _ _ h => h) (Or.inl ⟨by kernel_rfl, by intro w' hSw; (try dsimp only at hSw); (obtain ⟨i0, i1, i2⟩ := (Vi.call hSw).cells); go_simp⟩) (by assumption) ?_
      (try simp only [Act.put]); (try simp only [List.setIfInBounds_toArray]); (try simp only [List.set_cons_zero, List.set_cons_succ])
      refine wpAnyH_ready (rs := [2, 18]) (by kernel_rfl) (by simp) ?_
      refine (AllReadyH.cons rfl (fun K hK => ?_) (AllReadyH.cons rfl (fun K hK => ?_) AllReadyH.nil))
      · rw [if_pos (by kernel_rfl)]
        (try simp only [List.getElem_toArray]); (try simp only [List.getElem_cons_succ]); (try simp only [List.getElem_cons_zero])
        go_simp
        with_reducible refine (at_any _ a len cap zs (row_callD hR hS) 0 (by omega) (by omega)).mono ?_
        rintro e W' ⟨x1, rfl, l2, u2, rfl⟩
        dsimp only
        refine hK.out _ _ (hS) (fun hS => ?_)
        clear hK
        (try simp only [Act.put]); (try simp only [List.setIfInBounds_toArray]); (try simp only [List.set_cons_zero, List.set_cons_succ])
        refine wpAnyH_take (i := 3) (v := .int .i64 (Int.tmod x1 6)) rfl (by kernel_rfl) (by kernel_rfl) (by kernel_rfl) (fun _ _ _ h => h) (Or.inl ⟨by kernel_rfl, by intro w' hSw; (try dsimp only at hSw); (obtain ⟨i0, i1, i2⟩ := (Vi.call hSw).cells); go_simp⟩) (by assumption) ?_
        (try simp only [Act.put]); (try simp only [List.setIfInBounds_toArray]); (try simp only [List.set_cons_zero, List.set_cons_succ])
        refine wpAnyH_ready (rs := [5, 18]) (by kernel_rfl) (by simp) ?_
        refine (AllReadyH.cons rfl (fun K hK => ?_) (AllReadyH.cons rfl (fun K hK => ?_) AllReadyH.nil))
        · rw [if_pos (by kernel_rfl)]
          (try simp only [List.getElem_toArray]); (try simp only [List.getElem_cons_succ]); (try simp only [List.getElem_cons_zero])
          go_simp
          with_reducible refine (at_any _ a len cap zs (row_callD hR hS) 1 (by omega) (by omega)).mono ?_
          rintro e W' ⟨x2, rfl, l5, u5, rfl⟩
          dsimp only
          refine hK.out _ _ (hS) (fun hS => ?_)
          clear hK
          (try simp only [Act.put]); (try simp only [List.setIfInBounds_toArray]); (try simp only [List.set_cons_zero, List.set_cons_succ])
          refine wpAnyH_take (i := 6) (v := .int .i64 (Int.tmod x2 6)) rfl (by kernel_rfl) (by kernel_rfl) (by kernel_rfl) (fun _ _ _ h => h) (Or.inl ⟨by kernel_rfl, by intro w' hSw; (try dsimp only at hSw); (obtain ⟨i0, i1, i2⟩ := (Vi.call hSw).cells); go_simp⟩) (by assumption) ?_
          (try simp only [Act.put]); (try simp only [List.setIfInBounds_toArray]); (try simp only [List.set_cons_zero, List.set_cons_succ])
          refine wpAnyH_ready (rs := [8, 18]) (by kernel_rfl) (by simp) ?_
          refine (AllReadyH.cons rfl (fun K hK => ?_) (AllReadyH.cons rfl (fun K hK => ?_) AllReadyH.nil))
          · rw [if_pos (by kernel_rfl)]
            (try simp only [List.getElem_toArray]); (try simp only [List.getElem_cons_succ]); (try simp only [List.getElem_cons_zero])
            go_simp
            with_reducible refine (at_any _ a len cap zs (row_callD hR hS) 2 (by omega) (by omega)).mono ?_
            rintro e W' ⟨x3, rfl, l8, u8, rfl⟩
            dsimp only
            refine hK.out _ _ (hS) (fun hS => ?_)
            clear hK
            (try simp only [Act.put]); (try simp only [List.setIfInBounds_toArray]); (try simp only [List.set_cons_zero, List.set_cons_succ])
            refine wpAnyH_take (i := 9) (v := .int .i64 (Int.tmod x3 5)) rfl (by kernel_rfl) (by kernel_rfl) (by kernel_rfl) (fun _ _ _ h => h) (Or.inl ⟨by kernel_rfl, by intro w' hSw; (try dsimp only at hSw); (obtain ⟨i0, i1, i2⟩ := (Vi.call hSw).cells); go_simp⟩) (by assumption) ?_
            (try simp only [Act.put]); (try simp only [List.setIfInBounds_toArray]); (try simp only [List.set_cons_zero, List.set_cons_succ])
            refine wpAnyH_ready (rs := [11, 18]) (by kernel_rfl) (by simp) ?_
            refine (AllReadyH.cons rfl (fun K hK => ?_) (AllReadyH.cons rfl (fun K hK => ?_) AllReadyH.nil))
            · rw [if_pos (by kernel_rfl)]
              (try simp only [List.getElem_toArray]); (try simp only [List.getElem_cons_succ]); (try simp only [List.getElem_cons_zero])
              go_simp
              with_reducible refine (at_any _ a len cap zs (row_callD hR hS) 3 (by omega) (by omega)).mono ?_
              rintro e W' ⟨x4, rfl, l11, u11, rfl⟩
              dsimp only
              refine hK.out _ _ (hS) (fun hS => ?_)
              clear hK
              (try simp only [Act.put]); (try simp only [List.setIfInBounds_toArray]); (try simp only [List.set_cons_zero, List.set_cons_succ])
              refine wpAnyH_take (i := 12) (v := .int .i64 (Int.tmod x4 5)) rfl (by kernel_rfl) (by kernel_rfl) (by kernel_rfl) (fun _ _ _ h => h) (Or.inl ⟨by kernel_rfl, by intro w' hSw; (try dsimp only at hSw); (obtain ⟨i0, i1, i2⟩ := (Vi.call hSw).cells); go_simp⟩) (by assumption) ?_
              refine wpAnyH_take (i := 13) (v := .agg #[.int .i64 (Int.tmod x1 6), .int .i64 (Int.tmod x2 6), .int .i64 (Int.tmod x3 5), .int .i64 (Int.tmod x4 5)]) rfl (by kernel_rfl) (by kernel_rfl) (by kernel_rfl) (fun _ _ _ h => h) (Or.inl ⟨by kernel_rfl, by intro w' hSw; (try dsimp only at hSw); (obtain ⟨i0, i1, i2⟩ := (Vi.call hSw).cells); go_simp⟩) (by assumption) ?_
              (try simp only [Act.put]); (try simp only [List.setIfInBounds_toArray]); (try simp only [List.set_cons_zero, List.set_cons_succ])
              refine wpAnyH_ready (rs := [15, 18]) (by kernel_rfl) (by simp) ?_
              refine (AllReadyH.cons rfl (fun K hK => ?_) (AllReadyH.cons rfl (fun K hK => ?_) AllReadyH.nil))
              · rw [if_pos (by kernel_rfl)]
                (try simp only [List.getElem_toArray]); (try simp only [List.getElem_cons_succ]); (try simp only [List.getElem_cons_zero])
                go_simp
                with_reducible refine (at_any _ a len cap zs (row_callD hR hS) 4 (by omega) (by omega)).mono ?_
                rintro e W' ⟨x5, rfl, l15, u15, rfl⟩
                have r5 := wrap_in (x5 * 65536) (by omega) (by omega)
                dsimp only
                refine hK.out _ _ (hS) (fun hS => ?_)
                clear hK
                (try simp only [Act.put]); (try simp only [List.setIfInBounds_toArray]); (try simp only [List.set_cons_zero, List.set_cons_succ])
                refine wpAnyH_take (i := 16) (v := .int .i64 (x5 * 65536)) rfl (by kernel_rfl) (by kernel_rfl) (by kernel_rfl) (fun _ _ _ h => h) (Or.inl ⟨by kernel_rfl, by intro w' hSw; (try dsimp only at hSw); (obtain ⟨i0, i1, i2⟩ := (Vi.call hSw).cells); go_simp⟩) (by assumption) ?_
                (try simp only [Act.put]); (try simp only [List.setIfInBounds_toArray]); (try simp only [List.set_cons_zero, List.set_cons_succ])
                refine wpAnyH_ready (rs := [17, 18]) (by kernel_rfl) (by simp) ?_
                refine (AllReadyH.cons rfl (fun K hK => ?_) (AllReadyH.cons rfl (fun K hK => ?_) AllReadyH.nil))
                · rw [if_pos (by kernel_rfl)]
                  (try simp only [List.getElem_toArray]); (try simp only [List.getElem_cons_succ]); (try simp only [List.getElem_cons_zero])
                  go_simp
                  with_reducible refine (fillD X Y _ L (Int.tmod x1 6) (Int.tmod x2 6) (Int.tmod x3 5) (Int.tmod x4 5) (x5 * 65536) _ Ho.out (Vi.call hS).rd).mono ?_
                  rintro e W' ⟨M, v', rfl, oM, own', hb⟩
                  obtain ⟨A', c', he⟩ := ownI_shape own'
                  subst he
                  replace own' := own'.mono hS.size
                  dsimp only
                  refine hK.out _ _ (belI_call hS hb) (fun hS => ?_)
                  clear hK
                  (try simp only [Act.put]); (try simp only [List.setIfInBounds_toArray]); (try simp only [List.set_cons_zero, List.set_cons_succ])
                  refine wpAnyH_ready (rs := [18]) (by kernel_rfl) (by simp) ?_
                  refine (AllReadyH.cons rfl (fun K hK => ?_) AllReadyH.nil)
                  · rw [if_pos (by kernel_rfl)]
                    (try simp only [List.getElem_toArray]); (try simp only [List.getElem_cons_succ]); (try simp only [List.getElem_cons_zero])
                    refine wp_alloc_im 26 zero26 4 rfl rfl ?_
                    intro bB W' hb GB lB
                    have kB := Nat.le_trans hS.size lB
                    have nB : ∀ k, (Value.slice A' M.length c').ownBlock = some k → k ≠ bB := fun k hk => by have := (own'.lt k hk).2; omega
                    have own' := ownI_call own' hb
                    refine hK.out _ _ (belI_call hS hb) (fun hS => ?_)
                    clear hK
                    (try simp only [Act.put]); (try simp only [List.setIfInBounds_toArray]); (try simp only [List.set_cons_zero, List.set_cons_succ])
                    refine wpAnyH_ready (rs := [19]) (by kernel_rfl) (by simp) ?_
                    refine (AllReadyH.cons rfl (fun K hK => ?_) AllReadyH.nil)
                    · rw [if_pos (by kernel_rfl)]
                      (try simp only [List.getElem_toArray]); (try simp only [List.getElem_cons_succ]); (try simp only [List.getElem_cons_zero])
                      refine wp_store_im 26 size26 (.tmp 4) (.tmp 30) rfl bB 0 0 (.slice none 0 0) X Y A' M.length c' rfl (by first | with_reducible rfl | (go_simp; done) | rfl) GB ?_
                      intro W3 IB hgB
                      replace own' := own'.kept hgB (ownA_ne nB)
                      skip
                      refine hK.out _ _ (hS.grown hgB hS.size (fun k hk => by injection hk with hk; omega)) (fun hS => ?_)
                      clear hK
                      (try simp only [Act.put]); (try simp only [List.setIfInBounds_toArray]); (try simp only [List.set_cons_zero, List.set_cons_succ])
                      refine wpAnyH_done (by kernel_rfl) ?_ _
                      have OM := Lib.hid oM
                      clear oM
                      go_wp2_with fail
                      go_meet
                      case rel => exact ⟨bB, _, _, _, M, rfl, OM, ImV.made IB own' kB nB, hS⟩
                · rw [if_pos (by kernel_rfl)]
                  (try simp only [List.getElem_toArray]); (try simp only [List.getElem_cons_succ]); (try simp only [List.getElem_cons_zero])
                  refine wp_alloc_im 26 zero26 4 rfl rfl ?_
                  intro bB W' hb GB lB
                  have kB := Nat.le_trans hS.size lB
                  refine hK.out _ _ (belI_call hS hb) (fun hS => ?_)
                  clear hK
                  (try simp only [Act.put]); (try simp only [List.setIfInBounds_toArray]); (try simp only [List.set_cons_zero, List.set_cons_succ])
                  refine wpAnyH_ready (rs := [17]) (by kernel_rfl) (by simp) ?_
                  refine (AllReadyH.cons rfl (fun K hK => ?_) AllReadyH.nil)
                  · rw [if_pos (by kernel_rfl)]
                    (try simp only [List.getElem_toArray]); (try simp only [List.getElem_cons_succ]); (try simp only [List.getElem_cons_zero])
                    go_simp
                    with_reducible refine (fillD X Y _ L (Int.tmod x1 6) (Int.tmod x2 6) (Int.tmod x3 5) (Int.tmod x4 5) (x5 * 65536) _ Ho.out (Vi.call hS).rd).mono ?_
                    rintro e W' ⟨M, v', rfl, oM, own', hb⟩
                    obtain ⟨A', c', he⟩ := ownI_shape own'
                    subst he
                    have nB : ∀ k, (Value.slice A' M.length c').ownBlock = some k → k ≠ bB := fun k hk => by have := (own'.lt k hk).1; have := (Array.getElem?_eq_some_iff.1 GB).1; omega
                    replace own' := own'.mono hS.size
                    dsimp only
                    have GB := blk_call GB hb
                    refine hK.out _ _ (belI_call hS hb) (fun hS => ?_)
                    clear hK
                    (try simp only [Act.put]); (try simp only [List.setIfInBounds_toArray]); (try simp only [List.set_cons_zero, List.set_cons_succ])
                    refine wpAnyH_ready (rs := [19]) (by kernel_rfl) (by simp) ?_
                    refine (AllReadyH.cons rfl (fun K hK => ?_) AllReadyH.nil)
                    · rw [if_pos (by kernel_rfl)]
                      (try simp only [List.getElem_toArray]); (try simp only [List.getElem_cons_succ]); (try simp only [List.getElem_cons_zero])
                      refine wp_store_im 26 size26 (.tmp 4) (.tmp 30) rfl bB 0 0 (.slice none 0 0) X Y A' M.length c' rfl (by first | with_reducible rfl | (go_simp; done) | rfl) GB ?_
                      intro W3 IB hgB
                      skip
                      replace own' := own'.kept hgB (ownA_ne nB)
                      refine hK.out _ _ (hS.grown hgB hS.size (fun k hk => by injection hk with hk; omega)) (fun hS => ?_)
                      clear hK
                      (try simp only [Act.put]); (try simp only [List.setIfInBounds_toArray]); (try simp only [List.set_cons_zero, List.set_cons_succ])
                      refine wpAnyH_done (by kernel_rfl) ?_ _
                      have OM := Lib.hid oM
                      clear oM
                      go_wp2_with fail
                      go_meet
                      case rel => exact ⟨bB, _, _, _, M, rfl, OM, ImV.made IB own' kB nB, hS⟩
              · rw [if_pos (by kernel_rfl)]
                (try simp only [List.getElem_toArray]); (try simp only [List.getElem_cons_succ]); (try simp only [List.getElem_cons_zero])
                refine wp_alloc_im 26 zero26 4 rfl rfl ?_
                intro bB W' hb GB lB
                have kB := Nat.le_trans hS.size lB
                refine hK.out _ _ (belI_call hS hb) (fun hS => ?_)
                clear hK
                (try simp only [Act.put]); (try simp only [List.setIfInBounds_toArray]); (try simp only [List.set_cons_zero, List.set_cons_succ])
                refine wpAnyH_ready (rs := [15]) (by kernel_rfl) (by simp) ?_
                refine (AllReadyH.cons rfl (fun K hK => ?_) AllReadyH.nil)
                · rw [if_pos (by kernel_rfl)]
                  (try simp only [List.getElem_toArray]); (try simp only [List.getElem_cons_succ]); (try simp only [List.getElem_cons_zero])
                  go_simp
                  with_reducible refine (at_any _ a len cap zs (row_callD hR hS) 4 (by omega) (by omega)).mono ?_
                  rintro e W' ⟨x5, rfl, l15, u15, rfl⟩
                  have r5 := wrap_in (x5 * 65536) (by omega) (by omega)
                  dsimp only
                  skip
                  refine hK.out _ _ (hS) (fun hS => ?_)
                  clear hK
                  (try simp only [Act.put]); (try simp only [List.setIfInBounds_toArray]); (try simp only [List.set_cons_zero, List.set_cons_succ])
                  refine wpAnyH_take (i := 16) (v := .int .i64 (x5 * 65536)) rfl (by kernel_rfl) (by kernel_rfl) (by kernel_rfl) (fun _ _ _ h => h) (Or.inl ⟨by kernel_rfl, by intro w' hSw; (try dsimp only at hSw); (obtain ⟨i0, i1, i2⟩ := (Vi.call hSw).cells); go_simp⟩) (by assumption) ?_
                  (try simp only [Act.put]); (try simp only [List.setIfInBounds_toArray]); (try simp only [List.set_cons_zero, List.set_cons_succ])
                  refine wpAnyH_ready (rs := [17]) (by kernel_rfl) (by simp) ?_
                  refine (AllReadyH.cons rfl (fun K hK => ?_) AllReadyH.nil)
                  · rw [if_pos (by kernel_rfl)]
                    (try simp only [List.getElem_toArray]); (try simp only [List.getElem_cons_succ]); (try simp only [List.getElem_cons_zero])
                    go_simp
                    with_reducible refine (fillD X Y _ L (Int.tmod x1 6) (Int.tmod x2 6) (Int.tmod x3 5) (Int.tmod x4 5) (x5 * 65536) _ Ho.out (Vi.call hS).rd).mono ?_
                    rintro e W' ⟨M, v', rfl, oM, own', hb⟩
                    obtain ⟨A', c', he⟩ := ownI_shape own'
                    subst he
                    have nB : ∀ k, (Value.slice A' M.length c').ownBlock = some k → k ≠ bB := fun k hk => by have := (own'.lt k hk).1; have := (Array.getElem?_eq_some_iff.1 GB).1; omega
                    replace own' := own'.mono hS.size
                    dsimp only
                    have GB := blk_call GB hb
                    refine hK.out _ _ (belI_call hS hb) (fun hS => ?_)
                    clear hK
                    (try simp only [Act.put]); (try simp only [List.setIfInBounds_toArray]); (try simp only [List.set_cons_zero, List.set_cons_succ])
                    refine wpAnyH_ready (rs := [19]) (by kernel_rfl) (by simp) ?_
                    refine (AllReadyH.cons rfl (fun K hK => ?_) AllReadyH.nil)
                    · rw [if_pos (by kernel_rfl)]
                      (try simp only [List.getElem_toArray]); (try simp only [List.getElem_cons_succ]); (try simp only [List.getElem_cons_zero])
                      refine wp_store_im 26 size26 (.tmp 4) (.tmp 30) rfl bB 0 0 (.slice none 0 0) X Y A' M.length c' rfl (by first | with_reducible rfl | (go_simp; done) | rfl) GB ?_
                      intro W3 IB hgB
                      skip
                      replace own' := own'.kept hgB (ownA_ne nB)
                      refine hK.out _ _ (hS.grown hgB hS.size (fun k hk => by injection hk with hk; omega)) (fun hS => ?_)
                      clear hK
                      (try simp only [Act.put]); (try simp only [List.setIfInBounds_toArray]); (try simp only [List.set_cons_zero, List.set_cons_succ])
                      refine wpAnyH_done (by kernel_rfl) ?_ _
                      have OM := Lib.hid oM
                      clear oM
                      go_wp2_with fail
                      go_meet
                      case rel => exact ⟨bB, _, _, _, M, rfl, OM, ImV.made IB own' kB nB, hS⟩
            · rw [if_pos (by kernel_rfl)]
              (try simp only [List.getElem_toArray]); (try simp only [List.getElem_cons_succ]); (try simp only [List.getElem_cons_zero])
              refine wp_alloc_im 26 zero26 4 rfl rfl ?_
              intro bB W' hb GB lB
              have kB := Nat.le_trans hS.size lB
              refine hK.out _ _ (belI_call hS hb) (fun hS => ?_)
              clear hK
              (try simp only [Act.put]); (try simp only [List.setIfInBounds_toArray]); (try simp only [List.set_cons_zero, List.set_cons_succ])
              refine wpAnyH_ready (rs := [11]) (by kernel_rfl) (by simp) ?_
              refine (AllReadyH.cons rfl (fun K hK => ?_) AllReadyH.nil)
              · rw [if_pos (by kernel_rfl)]
                (try simp only [List.getElem_toArray]); (try simp only [List.getElem_cons_succ]); (try simp only [List.getElem_cons_zero])
                go_simp
                with_reducible refine (at_any _ a len cap zs (row_callD hR hS) 3 (by omega) (by omega)).mono ?_
                rintro e W' ⟨x4, rfl, l11, u11, rfl⟩
                dsimp only
                skip
                refine hK.out _ _ (hS) (fun hS => ?_)
                clear hK
                (try simp only [Act.put]); (try simp only [List.setIfInBounds_toArray]); (try simp only [List.set_cons_zero, List.set_cons_succ])
                refine wpAnyH_take (i := 12) (v := .int .i64 (Int.tmod x4 5)) rfl (by kernel_rfl) (by kernel_rfl) (by kernel_rfl) (fun _ _ _ h => h) (Or.inl ⟨by kernel_rfl, by intro w' hSw; (try dsimp only at hSw); (obtain ⟨i0, i1, i2⟩ := (Vi.call hSw).cells); go_simp⟩) (by assumption) ?_
                refine wpAnyH_take (i := 13) (v := .agg #[.int .i64 (Int.tmod x1 6), .int .i64 (Int.tmod x2 6), .int .i64 (Int.tmod x3 5), .int .i64 (Int.tmod x4 5)]) rfl (by kernel_rfl) (by kernel_rfl) (by kernel_rfl) (fun _ _ _ h => h) (Or.inl ⟨by kernel_rfl, by intro w' hSw; (try dsimp only at hSw); (obtain ⟨i0, i1, i2⟩ := (Vi.call hSw).cells); go_simp⟩) (by assumption) ?_
                (try simp only [Act.put]); (try simp only [List.setIfInBounds_toArray]); (try simp only [List.set_cons_zero, List.set_cons_succ])
                refine wpAnyH_ready (rs := [15]) (by kernel_rfl) (by simp) ?_
                refine (AllReadyH.cons rfl (fun K hK => ?_) AllReadyH.nil)
                · rw [if_pos (by kernel_rfl)]
                  (try simp only [List.getElem_toArray]); (try simp only [List.getElem_cons_succ]); (try simp only [List.getElem_cons_zero])
                  go_simp
                  with_reducible refine (at_any _ a len cap zs (row_callD hR hS) 4 (by omega) (by omega)).mono ?_
                  rintro e W' ⟨x5, rfl, l15, u15, rfl⟩
                  have r5 := wrap_in (x5 * 65536) (by omega) (by omega)
                  dsimp only
                  skip
                  refine hK.out _ _ (hS) (fun hS => ?_)
                  clear hK
                  (try simp only [Act.put]); (try simp only [List.setIfInBounds_toArray]); (try simp only [List.set_cons_zero, List.set_cons_succ])
                  refine wpAnyH_take (i := 16) (v := .int .i64 (x5 * 65536)) rfl (by kernel_rfl) (by kernel_rfl) (by kernel_rfl) (fun _ _ _ h => h) (Or.inl ⟨by kernel_rfl, by intro w' hSw; (try dsimp only at hSw); (obtain ⟨i0, i1, i2⟩ := (Vi.call hSw).cells); go_simp⟩) (by assumption) ?_
                  (try simp only [Act.put]); (try simp only [List.setIfInBounds_toArray]); (try simp only [List.set_cons_zero, List.set_cons_succ])
                  refine wpAnyH_ready (rs := [17]) (by kernel_rfl) (by simp) ?_
                  refine (AllReadyH.cons rfl (fun K hK => ?_) AllReadyH.nil)
                  · rw [if_pos (by kernel_rfl)]
                    (try simp only [List.getElem_toArray]); (try simp only [List.getElem_cons_succ]); (try simp only [List.getElem_cons_zero])
                    go_simp
                    with_reducible refine (fillD X Y _ L (Int.tmod x1 6) (Int.tmod x2 6) (Int.tmod x3 5) (Int.tmod x4 5) (x5 * 65536) _ Ho.out (Vi.call hS).rd).mono ?_
                    rintro e W' ⟨M, v', rfl, oM, own', hb⟩
                    obtain ⟨A', c', he⟩ := ownI_shape own'
                    subst he
                    have nB : ∀ k, (Value.slice A' M.length c').ownBlock = some k → k ≠ bB := fun k hk => by have := (own'.lt k hk).1; have := (Array.getElem?_eq_some_iff.1 GB).1; omega
                    replace own' := own'.mono hS.size
                    dsimp only
                    have GB := blk_call GB hb
                    refine hK.out _ _ (belI_call hS hb) (fun hS => ?_)
                    clear hK
                    (try simp only [Act.put]); (try simp only [List.setIfInBounds_toArray]); (try simp only [List.set_cons_zero, List.set_cons_succ])
                    refine wpAnyH_ready (rs := [19]) (by kernel_rfl) (by simp) ?_
                    refine (AllReadyH.cons rfl (fun K hK => ?_) AllReadyH.nil)
                    · rw [if_pos (by kernel_rfl)]
                      (try simp only [List.getElem_toArray]); (try simp only [List.getElem_cons_succ]); (try simp only [List.getElem_cons_zero])
                      refine wp_store_im 26 size26 (.tmp 4) (.tmp 30) rfl bB 0 0 (.slice none 0 0) X Y A' M.length c' rfl (by first | with_reducible rfl | (go_simp; done) | rfl) GB ?_
                      intro W3 IB hgB
                      skip
                      replace own' := own'.kept hgB (ownA_ne nB)
                      refine hK.out _ _ (hS.grown hgB hS.size (fun k hk => by injection hk with hk; omega)) (fun hS => ?_)
                      clear hK
                      (try simp only [Act.put]); (try simp only [List.setIfInBounds_toArray]); (try simp only [List.set_cons_zero, List.set_cons_succ])
                      refine wpAnyH_done (by kernel_rfl) ?_ _
                      have OM := Lib.hid oM
                      clear oM
                      go_wp2_with fail
                      go_meet
                      case rel => exact ⟨bB, _, _, _, M, rfl, OM, ImV.made IB own' kB nB, hS⟩
          · rw [if_pos (by kernel_rfl)]
            (try simp only [List.getElem_toArray]); (try simp only [List.getElem_cons_succ]); (try simp only [List.getElem_cons_zero])
            refine wp_alloc_im 26 zero26 4 rfl rfl ?_
            intro bB W' hb GB lB
            have kB := Nat.le_trans hS.size lB
            refine hK.out _ _ (belI_call hS hb) (fun hS => ?_)
            clear hK
            (try simp only [Act.put]); (try simp only [List.setIfInBounds_toArray]); (try simp only [List.set_cons_zero, List.set_cons_succ])
            refine wpAnyH_ready (rs := [8]) (by kernel_rfl) (by simp) ?_
            refine (AllReadyH.cons rfl (fun K hK => ?_) AllReadyH.nil)
            · rw [if_pos (by kernel_rfl)]
              (try simp only [List.getElem_toArray]); (try simp only [List.getElem_cons_succ]); (try simp only [List.getElem_cons_zero])
              go_simp
              with_reducible refine (at_any _ a len cap zs (row_callD hR hS) 2 (by omega) (by omega)).mono ?_
              rintro e W' ⟨x3, rfl, l8, u8, rfl⟩
              dsimp only
              skip
              refine hK.out _ _ (hS) (fun hS => ?_)
              clear hK
              (try simp only [Act.put]); (try simp only [List.setIfInBounds_toArray]); (try simp only [List.set_cons_zero, List.set_cons_succ])
              refine wpAnyH_take (i := 9) (v := .int .i64 (Int.tmod x3 5)) rfl (by kernel_rfl) (by kernel_rfl) (by kernel_rfl) (fun _ _ _ h => h) (Or.inl ⟨by kernel_rfl, by intro w' hSw; (try dsimp only at hSw); (obtain ⟨i0, i1, i2⟩ := (Vi.call hSw).cells); go_simp⟩) (by assumption) ?_
              (try simp only [Act.put]); (try simp only [List.setIfInBounds_toArray]); (try simp only [List.set_cons_zero, List.set_cons_succ])
              refine wpAnyH_ready (rs := [11]) (by kernel_rfl) (by simp) ?_
              refine (AllReadyH.cons rfl (fun K hK => ?_) AllReadyH.nil)
              · rw [if_pos (by kernel_rfl)]
                (try simp only [List.getElem_toArray]); (try simp only [List.getElem_cons_succ]); (try simp only [List.getElem_cons_zero])
                go_simp
                with_reducible refine (at_any _ a len cap zs (row_callD hR hS) 3 (by omega) (by omega)).mono ?_
                rintro e W' ⟨x4, rfl, l11, u11, rfl⟩
                dsimp only
                skip
                refine hK.out _ _ (hS) (fun hS => ?_)
                clear hK
                (try simp only [Act.put]); (try simp only [List.setIfInBounds_toArray]); (try simp only [List.set_cons_zero, List.set_cons_succ])
                refine wpAnyH_take (i := 12) (v := .int .i64 (Int.tmod x4 5)) rfl (by kernel_rfl) (by kernel_rfl) (by kernel_rfl) (fun _ _ _ h => h) (Or.inl ⟨by kernel_rfl, by intro w' hSw; (try dsimp only at hSw); (obtain ⟨i0, i1, i2⟩ := (Vi.call hSw).cells); go_simp⟩) (by assumption) ?_
                refine wpAnyH_take (i := 13) (v := .agg #[.int .i64 (Int.tmod x1 6), .int .i64 (Int.tmod x2 6), .int .i64 (Int.tmod x3 5), .int .i64 (Int.tmod x4 5)]) rfl (by kernel_rfl) (by kernel_rfl) (by kernel_rfl) (fun _ _ _ h => h) (Or.inl ⟨by kernel_rfl, by intro w' hSw; (try dsimp only at hSw); (obtain ⟨i0, i1, i2⟩ := (Vi.call hSw).cells); go_simp⟩) (by assumption) ?_
                (try simp only [Act.put]); (try simp only [List.setIfInBounds_toArray]); (try simp only [List.set_cons_zero, List.set_cons_succ])
                refine wpAnyH_ready (rs := [15]) (by kernel_rfl) (by simp) ?_
                refine (AllReadyH.cons rfl (fun K hK => ?_) AllReadyH.nil)
                · rw [if_pos (by kernel_rfl)]
                  (try simp only [List.getElem_toArray]); (try simp only [List.getElem_cons_succ]); (try simp only [List.getElem_cons_zero])
                  go_simp
                  with_reducible refine (at_any _ a len cap zs (row_callD hR hS) 4 (by omega) (by omega)).mono ?_
                  rintro e W' ⟨x5, rfl, l15, u15, rfl⟩
                  have r5 := wrap_in (x5 * 65536) (by omega) (by omega)
                  dsimp only
                  skip
                  refine hK.out _ _ (hS) (fun hS => ?_)
                  clear hK
                  (try simp only [Act.put]); (try simp only [List.setIfInBounds_toArray]); (try simp only [List.set_cons_zero, List.set_cons_succ])
                  refine wpAnyH_take (i := 16) (v := .int .i64 (x5 * 65536)) rfl (by kernel_rfl) (by kernel_rfl) (by kernel_rfl) (fun _ _ _ h => h) (Or.inl ⟨by kernel_rfl, by intro w' hSw; (try dsimp only at hSw); (obtain ⟨i0, i1, i2⟩ := (Vi.call hSw).cells); go_simp⟩) (by assumption) ?_
                  (try simp only [Act.put]); (try simp only [List.setIfInBounds_toArray]); (try simp only [List.set_cons_zero, List.set_cons_succ])
                  refine wpAnyH_ready (rs := [17]) (by kernel_rfl) (by simp) ?_
                  refine (AllReadyH.cons rfl (fun K hK => ?_) AllReadyH.nil)
                  · rw [if_pos (by kernel_rfl)]
                    (try simp only [List.getElem_toArray]); (try simp only [List.getElem_cons_succ]); (try simp only [List.getElem_cons_zero])
                    go_simp
                    with_reducible refine (fillD X Y _ L (Int.tmod x1 6) (Int.tmod x2 6) (Int.tmod x3 5) (Int.tmod x4 5) (x5 * 65536) _ Ho.out (Vi.call hS).rd).mono ?_
                    rintro e W' ⟨M, v', rfl, oM, own', hb⟩
                    obtain ⟨A', c', he⟩ := ownI_shape own'
                    subst he
                    have nB : ∀ k, (Value.slice A' M.length c').ownBlock = some k → k ≠ bB := fun k hk => by have := (own'.lt k hk).1; have := (Array.getElem?_eq_some_iff.1 GB).1; omega
                    replace own' := own'.mono hS.size
                    dsimp only
                    have GB := blk_call GB hb
                    refine hK.out _ _ (belI_call hS hb) (fun hS => ?_)
                    clear hK
                    (try simp only [Act.put]); (try simp only [List.setIfInBounds_toArray]); (try simp only [List.set_cons_zero, List.set_cons_succ])
                    refine wpAnyH_ready (rs := [19]) (by kernel_rfl) (by simp) ?_
                    refine (AllReadyH.cons rfl (fun K hK => ?_) AllReadyH.nil)
                    · rw [if_pos (by kernel_rfl)]
                      (try simp only [List.getElem_toArray]); (try simp only [List.getElem_cons_succ]); (try simp only [List.getElem_cons_zero])
                      refine wp_store_im 26 size26 (.tmp 4) (.tmp 30) rfl bB 0 0 (.slice none 0 0) X Y A' M.length c' rfl (by first | with_reducible rfl | (go_simp; done) | rfl) GB ?_
                      intro W3 IB hgB
                      skip
                      replace own' := own'.kept hgB (ownA_ne nB)
                      refine hK.out _ _ (hS.grown hgB hS.size (fun k hk => by injection hk with hk; omega)) (fun hS => ?_)
                      clear hK
                      (try simp only [Act.put]); (try simp only [List.setIfInBounds_toArray]); (try simp only [List.set_cons_zero, List.set_cons_succ])
                      refine wpAnyH_done (by kernel_rfl) ?_ _
                      have OM := Lib.hid oM
                      clear oM
                      go_wp2_with fail
                      go_meet
                      case rel => exact ⟨bB, _, _, _, M, rfl, OM, ImV.made IB own' kB nB, hS⟩
        · rw [if_pos (by kernel_rfl)]
          (try simp only [List.getElem_toArray]); (try simp only [List.getElem_cons_succ]); (try simp only [List.getElem_cons_zero])
          refine wp_alloc_im 26 zero26 4 rfl rfl ?_
          intro bB W' hb GB lB
          have kB := Nat.le_trans hS.size lB
          refine hK.out _ _ (belI_call hS hb) (fun hS => ?_)
          clear hK
          (try simp only [Act.put]); (try simp only [List.setIfInBounds_toArray]); (try simp only [List.set_cons_zero, List.set_cons_succ])
          refine wpAnyH_ready (rs := [5]) (by kernel_rfl) (by simp) ?_
          refine (AllReadyH.cons rfl (fun K hK => ?_) AllReadyH.nil)
          · rw [if_pos (by kernel_rfl)]
            (try simp only [List.getElem_toArray]); (try simp only [List.getElem_cons_succ]); (try simp only [List.getElem_cons_zero])
            go_simp
            with_reducible refine (at_any _ a len cap zs (row_callD hR hS) 1 (by omega) (by omega)).mono ?_
            rintro e W' ⟨x2, rfl, l5, u5, rfl⟩
            dsimp only
            skip
            refine hK.out _ _ (hS) (fun hS => ?_)
            clear hK
            (try simp only [Act.put]); (try simp only [List.setIfInBounds_toArray]); (try simp only [List.set_cons_zero, List.set_cons_succ])
            refine wpAnyH_take (i := 6) (v := .int .i64 (Int.tmod x2 6)) rfl (by kernel_rfl) (by kernel_rfl) (by kernel_rfl) (fun _ _ _ h => h) (Or.inl ⟨by kernel_rfl, by intro w' hSw; (try dsimp only at hSw); (obtain ⟨i0, i1, i2⟩ := (Vi.call hSw).cells); go_simp⟩) (by assumption) ?_
            (try simp only [Act.put]); (try simp only [List.setIfInBounds_toArray]); (try simp only [List.set_cons_zero, List.set_cons_succ])
            refine wpAnyH_ready (rs := [8]) (by kernel_rfl) (by simp) ?_
            refine (AllReadyH.cons rfl (fun K hK => ?_) AllReadyH.nil)
            · rw [if_pos (by kernel_rfl)]
              (try simp only [List.getElem_toArray]); (try simp only [List.getElem_cons_succ]); (try simp only [List.getElem_cons_zero])
              go_simp
              with_reducible refine (at_any _ a len cap zs (row_callD hR hS) 2 (by omega) (by omega)).mono ?_
              rintro e W' ⟨x3, rfl, l8, u8, rfl⟩
              dsimp only
              skip
              refine hK.out _ _ (hS) (fun hS => ?_)
              clear hK
              (try simp only [Act.put]); (try simp only [List.setIfInBounds_toArray]); (try simp only [List.set_cons_zero, List.set_cons_succ])
              refine wpAnyH_take (i := 9) (v := .int .i64 (Int.tmod x3 5)) rfl (by kernel_rfl) (by kernel_rfl) (by kernel_rfl) (fun _ _ _ h => h) (Or.inl ⟨by kernel_rfl, by intro w' hSw; (try dsimp only at hSw); (obtain ⟨i0, i1, i2⟩ := (Vi.call hSw).cells); go_simp⟩) (by assumption) ?_
              (try simp only [Act.put]); (try simp only [List.setIfInBounds_toArray]); (try simp only [List.set_cons_zero, List.set_cons_succ])
              refine wpAnyH_ready (rs := [11]) (by kernel_rfl) (by simp) ?_
              refine (AllReadyH.cons rfl (fun K hK => ?_) AllReadyH.nil)
              · rw [if_pos (by kernel_rfl)]
                (try simp only [List.getElem_toArray]); (try simp only [List.getElem_cons_succ]); (try simp only [List.getElem_cons_zero])
                go_simp
                with_reducible refine (at_any _ a len cap zs (row_callD hR hS) 3 (by omega) (by omega)).mono ?_
                rintro e W' ⟨x4, rfl, l11, u11, rfl⟩
                dsimp only
                skip
                refine hK.out _ _ (hS) (fun hS => ?_)
                clear hK
                (try simp only [Act.put]); (try simp only [List.setIfInBounds_toArray]); (try simp only [List.set_cons_zero, List.set_cons_succ])
                refine wpAnyH_take (i := 12) (v := .int .i64 (Int.tmod x4 5)) rfl (by kernel_rfl) (by kernel_rfl) (by kernel_rfl) (fun _ _ _ h => h) (Or.inl ⟨by kernel_rfl, by intro w' hSw; (try dsimp only at hSw); (obtain ⟨i0, i1, i2⟩ := (Vi.call hSw).cells); go_simp⟩) (by assumption) ?_
                refine wpAnyH_take (i := 13) (v := .agg #[.int .i64 (Int.tmod x1 6), .int .i64 (Int.tmod x2 6), .int .i64 (Int.tmod x3 5), .int .i64 (Int.tmod x4 5)]) rfl (by kernel_rfl) (by kernel_rfl) (by kernel_rfl) (fun _ _ _ h => h) (Or.inl ⟨by kernel_rfl, by intro w' hSw; (try dsimp only at hSw); (obtain ⟨i0, i1, i2⟩ := (Vi.call hSw).cells); go_simp⟩) (by assumption) ?_
                (try simp only [Act.put]); (try simp only [List.setIfInBounds_toArray]); (try simp only [List.set_cons_zero, List.set_cons_succ])
                refine wpAnyH_ready (rs := [15]) (by kernel_rfl) (by simp) ?_
                refine (AllReadyH.cons rfl (fun K hK => ?_) AllReadyH.nil)
                · rw [if_pos (by kernel_rfl)]
                  (try simp only [List.getElem_toArray]); (try simp only [List.getElem_cons_succ]); (try simp only [List.getElem_cons_zero])
                  go_simp
                  with_reducible refine (at_any _ a len cap zs (row_callD hR hS) 4 (by omega) (by omega)).mono ?_
                  rintro e W' ⟨x5, rfl, l15, u15, rfl⟩
                  have r5 := wrap_in (x5 * 65536) (by omega) (by omega)
                  dsimp only
                  skip
                  refine hK.out _ _ (hS) (fun hS => ?_)
                  clear hK
                  (try simp only [Act.put]); (try simp only [List.setIfInBounds_toArray]); (try simp only [List.set_cons_zero, List.set_cons_succ])
                  refine wpAnyH_take (i := 16) (v := .int .i64 (x5 * 65536)) rfl (by kernel_rfl) (by kernel_rfl) (by kernel_rfl) (fun _ _ _ h => h) (Or.inl ⟨by kernel_rfl, by intro w' hSw; (try dsimp only at hSw); (obtain ⟨i0, i1, i2⟩ := (Vi.call hSw).cells); go_simp⟩) (by assumption) ?_
                  (try simp only [Act.put]); (try simp only [List.setIfInBounds_toArray]); (try simp only [List.set_cons_zero, List.set_cons_succ])
                  refine wpAnyH_ready (rs := [17]) (by kernel_rfl) (by simp) ?_
                  refine (AllReadyH.cons rfl (fun K hK => ?_) AllReadyH.nil)
                  · rw [if_pos (by kernel_rfl)]
                    (try simp only [List.getElem_toArray]); (try simp only [List.getElem_cons_succ]); (try simp only [List.getElem_cons_zero])
                    go_simp
                    with_reducible refine (fillD X Y _ L (Int.tmod x1 6) (Int.tmod x2 6) (Int.tmod x3 5) (Int.tmod x4 5) (x5 * 65536) _ Ho.out (Vi.call hS).rd).mono ?_
                    rintro e W' ⟨M, v', rfl, oM, own', hb⟩
                    obtain ⟨A', c', he⟩ := ownI_shape own'
                    subst he
                    have nB : ∀ k, (Value.slice A' M.length c').ownBlock = some k → k ≠ bB := fun k hk => by have := (own'.lt k hk).1; have := (Array.getElem?_eq_some_iff.1 GB).1; omega
                    replace own' := own'.mono hS.size
                    dsimp only
                    have GB := blk_call GB hb
                    refine hK.out _ _ (belI_call hS hb) (fun hS => ?_)
                    clear hK
                    (try simp only [Act.put]); (try simp only [List.setIfInBounds_toArray]); (try simp only [List.set_cons_zero, List.set_cons_succ])
                    refine wpAnyH_ready (rs := [19]) (by kernel_rfl) (by simp) ?_
                    refine (AllReadyH.cons rfl (fun K hK => ?_) AllReadyH.nil)
                    · rw [if_pos (by kernel_rfl)]
                      (try simp only [List.getElem_toArray]); (try simp only [List.getElem_cons_succ]); (try simp only [List.getElem_cons_zero])
                      refine wp_store_im 26 size26 (.tmp 4) (.tmp 30) rfl bB 0 0 (.slice none 0 0) X Y A' M.length c' rfl (by first | with_reducible rfl | (go_simp; done) | rfl) GB ?_
                      intro W3 IB hgB
                      skip
                      replace own' := own'.kept hgB (ownA_ne nB)
                      refine hK.out _ _ (hS.grown hgB hS.size (fun k hk => by injection hk with hk; omega)) (fun hS => ?_)
                      clear hK
                      (try simp only [Act.put]); (try simp only [List.setIfInBounds_toArray]); (try simp only [List.set_cons_zero, List.set_cons_succ])
                      refine wpAnyH_done (by kernel_rfl) ?_ _
                      have OM := Lib.hid oM
                      clear oM
                      go_wp2_with fail
                      go_meet
                      case rel => exact ⟨bB, _, _, _, M, rfl, OM, ImV.made IB own' kB nB, hS⟩
      · rw [if_pos (by kernel_rfl)]
        (try simp only [List.getElem_toArray]); (try simp only [List.getElem_cons_succ]); (try simp only [List.getElem_cons_zero])
        refine wp_alloc_im 26 zero26 4 rfl rfl ?_
        intro bB W' hb GB lB
        have kB := Nat.le_trans hS.size lB
        refine hK.out _ _ (belI_call hS hb) (fun hS => ?_)
        clear hK
        (try simp only [Act.put]); (try simp only [List.setIfInBounds_toArray]); (try simp only [List.set_cons_zero, List.set_cons_succ])
        refine wpAnyH_ready (rs := [2]) (by kernel_rfl) (by simp) ?_
        refine (AllReadyH.cons rfl (fun K hK => ?_) AllReadyH.nil)
        · rw [if_pos (by kernel_rfl)]
          (try simp only [List.getElem_toArray]); (try simp only [List.getElem_cons_succ]); (try simp only [List.getElem_cons_zero])
          go_simp
          with_reducible refine (at_any _ a len cap zs (row_callD hR hS) 0 (by omega) (by omega)).mono ?_
          rintro e W' ⟨x1, rfl, l2, u2, rfl⟩
          dsimp only
          skip
          refine hK.out _ _ (hS) (fun hS => ?_)
          clear hK
          (try simp only [Act.put]); (try simp only [List.setIfInBounds_toArray]); (try simp only [List.set_cons_zero, List.set_cons_succ])
          refine wpAnyH_take (i := 3) (v := .int .i64 (Int.tmod x1 6)) rfl (by kernel_rfl) (by kernel_rfl) (by kernel_rfl) (fun _ _ _ h => h) (Or.inl ⟨by kernel_rfl, by intro w' hSw; (try dsimp only at hSw); (obtain ⟨i0, i1, i2⟩ := (Vi.call hSw).cells); go_simp⟩) (by assumption) ?_
          (try simp only [Act.put]); (try simp only [List.setIfInBounds_toArray]); (try simp only [List.set_cons_zero, List.set_cons_succ])
          refine wpAnyH_ready (rs := [5]) (by kernel_rfl) (by simp) ?_
          refine (AllReadyH.cons rfl (fun K hK => ?_) AllReadyH.nil)
          · rw [if_pos (by kernel_rfl)]
            (try simp only [List.getElem_toArray]); (try simp only [List.getElem_cons_succ]); (try simp only [List.getElem_cons_zero])
            go_simp
            with_reducible refine (at_any _ a len cap zs (row_callD hR hS) 1 (by omega) (by omega)).mono ?_
            rintro e W' ⟨x2, rfl, l5, u5, rfl⟩
            dsimp only
            skip
            refine hK.out _ _ (hS) (fun hS => ?_)
            clear hK
            (try simp only [Act.put]); (try simp only [List.setIfInBounds_toArray]); (try simp only [List.set_cons_zero, List.set_cons_succ])
            refine wpAnyH_take (i := 6) (v := .int .i64 (Int.tmod x2 6)) rfl (by kernel_rfl) (by kernel_rfl) (by kernel_rfl) (fun _ _ _ h => h) (Or.inl ⟨by kernel_rfl, by intro w' hSw; (try dsimp only at hSw); (obtain ⟨i0, i1, i2⟩ := (Vi.call hSw).cells); go_simp⟩) (by assumption) ?_
            (try simp only [Act.put]); (try simp only [List.setIfInBounds_toArray]); (try simp only [List.set_cons_zero, List.set_cons_succ])
            refine wpAnyH_ready (rs := [8]) (by kernel_rfl) (by simp) ?_
            refine (AllReadyH.cons rfl (fun K hK => ?_) AllReadyH.nil)
            · rw [if_pos (by kernel_rfl)]
              (try simp only [List.getElem_toArray]); (try simp only [List.getElem_cons_succ]); (try simp only [List.getElem_cons_zero])
              go_simp
              with_reducible refine (at_any _ a len cap zs (row_callD hR hS) 2 (by omega) (by omega)).mono ?_
              rintro e W' ⟨x3, rfl, l8, u8, rfl⟩
              dsimp only
              skip
              refine hK.out _ _ (hS) (fun hS => ?_)
              clear hK
              (try simp only [Act.put]); (try simp only [List.setIfInBounds_toArray]); (try simp only [List.set_cons_zero, List.set_cons_succ])
              refine wpAnyH_take (i := 9) (v := .int .i64 (Int.tmod x3 5)) rfl (by kernel_rfl) (by kernel_rfl) (by kernel_rfl) (fun _ _ _ h => h) (Or.inl ⟨by kernel_rfl, by intro w' hSw; (try dsimp only at hSw); (obtain ⟨i0, i1, i2⟩ := (Vi.call hSw).cells); go_simp⟩) (by assumption) ?_
              (try simp only [Act.put]); (try simp only [List.setIfInBounds_toArray]); (try simp only [List.set_cons_zero, List.set_cons_succ])
              refine wpAnyH_ready (rs := [11]) (by kernel_rfl) (by simp) ?_
              refine (AllReadyH.cons rfl (fun K hK => ?_) AllReadyH.nil)
              · rw [if_pos (by kernel_rfl)]
                (try simp only [List.getElem_toArray]); (try simp only [List.getElem_cons_succ]); (try simp only [List.getElem_cons_zero])
                go_simp
                with_reducible refine (at_any _ a len cap zs (row_callD hR hS) 3 (by omega) (by omega)).mono ?_
                rintro e W' ⟨x4, rfl, l11, u11, rfl⟩
                dsimp only
                skip
                refine hK.out _ _ (hS) (fun hS => ?_)
                clear hK
                (try simp only [Act.put]); (try simp only [List.setIfInBounds_toArray]); (try simp only [List.set_cons_zero, List.set_cons_succ])
                refine wpAnyH_take (i := 12) (v := .int .i64 (Int.tmod x4 5)) rfl (by kernel_rfl) (by kernel_rfl) (by kernel_rfl) (fun _ _ _ h => h) (Or.inl ⟨by kernel_rfl, by intro w' hSw; (try dsimp only at hSw); (obtain ⟨i0, i1, i2⟩ := (Vi.call hSw).cells); go_simp⟩) (by assumption) ?_
                refine wpAnyH_take (i := 13) (v := .agg #[.int .i64 (Int.tmod x1 6), .int .i64 (Int.tmod x2 6), .int .i64 (Int.tmod x3 5), .int .i64 (Int.tmod x4 5)]) rfl (by kernel_rfl) (by kernel_rfl) (by kernel_rfl) (fun _ _ _ h => h) (Or.inl ⟨by kernel_rfl, by intro w' hSw; (try dsimp only at hSw); (obtain ⟨i0, i1, i2⟩ := (Vi.call hSw).cells); go_simp⟩) (by assumption) ?_
                (try simp only [Act.put]); (try simp only [List.setIfInBounds_toArray]); (try simp only [List.set_cons_zero, List.set_cons_succ])
                refine wpAnyH_ready (rs := [15]) (by kernel_rfl) (by simp) ?_
                refine (AllReadyH.cons rfl (fun K hK => ?_) AllReadyH.nil)
                · rw [if_pos (by kernel_rfl)]
                  (try simp only [List.getElem_toArray]); (try simp only [List.getElem_cons_succ]); (try simp only [List.getElem_cons_zero])
                  go_simp
                  with_reducible refine (at_any _ a len cap zs (row_callD hR hS) 4 (by omega) (by omega)).mono ?_
                  rintro e W' ⟨x5, rfl, l15, u15, rfl⟩
                  have r5 := wrap_in (x5 * 65536) (by omega) (by omega)
                  dsimp only
                  skip
                  refine hK.out _ _ (hS) (fun hS => ?_)
                  clear hK
                  (try simp only [Act.put]); (try simp only [List.setIfInBounds_toArray]); (try simp only [List.set_cons_zero, List.set_cons_succ])
                  refine wpAnyH_take (i := 16) (v := .int .i64 (x5 * 65536)) rfl (by kernel_rfl) (by kernel_rfl) (by kernel_rfl) (fun _ _ _ h => h) (Or.inl ⟨by kernel_rfl, by intro w' hSw; (try dsimp only at hSw); (obtain ⟨i0, i1, i2⟩ := (Vi.call hSw).cells); go_simp⟩) (by assumption) ?_
                  (try simp only [Act.put]); (try simp only [List.setIfInBounds_toArray]); (try simp only [List.set_cons_zero, List.set_cons_succ])
                  refine wpAnyH_ready (rs := [17]) (by kernel_rfl) (by simp) ?_
                  refine (AllReadyH.cons rfl (fun K hK => ?_) AllReadyH.nil)
                  · rw [if_pos (by kernel_rfl)]
                    (try simp only [List.getElem_toArray]); (try simp only [List.getElem_cons_succ]); (try simp only [List.getElem_cons_zero])
                    go_simp
                    with_reducible refine (fillD X Y _ L (Int.tmod x1 6) (Int.tmod x2 6) (Int.tmod x3 5) (Int.tmod x4 5) (x5 * 65536) _ Ho.out (Vi.call hS).rd).mono ?_
                    rintro e W' ⟨M, v', rfl, oM, own', hb⟩
                    obtain ⟨A', c', he⟩ := ownI_shape own'
                    subst he
                    have nB : ∀ k, (Value.slice A' M.length c').ownBlock = some k → k ≠ bB := fun k hk => by have := (own'.lt k hk).1; have := (Array.getElem?_eq_some_iff.1 GB).1; omega
                    replace own' := own'.mono hS.size
                    dsimp only
                    have GB := blk_call GB hb
                    refine hK.out _ _ (belI_call hS hb) (fun hS => ?_)
                    clear hK
                    (try simp only [Act.put]); (try simp only [List.setIfInBounds_toArray]); (try simp only [List.set_cons_zero, List.set_cons_succ])
                    refine wpAnyH_ready (rs := [19]) (by kernel_rfl) (by simp) ?_
                    refine (AllReadyH.cons rfl (fun K hK => ?_) AllReadyH.nil)
                    · rw [if_pos (by kernel_rfl)]
                      (try simp only [List.getElem_toArray]); (try simp only [List.getElem_cons_succ]); (try simp only [List.getElem_cons_zero])
                      refine wp_store_im 26 size26 (.tmp 4) (.tmp 30) rfl bB 0 0 (.slice none 0 0) X Y A' M.length c' rfl (by first | with_reducible rfl | (go_simp; done) | rfl) GB ?_
                      intro W3 IB hgB
                      skip
                      replace own' := own'.kept hgB (ownA_ne nB)
                      refine hK.out _ _ (hS.grown hgB hS.size (fun k hk => by injection hk with hk; omega)) (fun hS => ?_)
                      clear hK
                      (try simp only [Act.put]); (try simp only [List.setIfInBounds_toArray]); (try simp only [List.set_cons_zero, List.set_cons_succ])
                      refine wpAnyH_done (by kernel_rfl) ?_ _
                      have OM := Lib.hid oM
                      clear oM
                      go_wp2_with fail
                      go_meet
                      case rel => exact ⟨bB, _, _, _, M, rfl, OM, ImV.made IB own' kB nB, hS⟩
  case rest =>
    obtain ⟨bj, hj, Aj, cj, M, rfl, Om, Vj, hb⟩ := hcut
    obtain ⟨w5, hw5⟩ : ∃ W, W = wc := ⟨_, rfl⟩
    subst hw5
    replace Vi := Vi.call hb
    replace K := belI_call K hb
    clear hb hR
    obtain ⟨D, hD⟩ : ∃ D, difL X Y L X Y M = D := ⟨_, rfl⟩
    obtain ⟨ar, ha, ha0, ha1, hq⟩ := dif_area Ho.out Om.out
    have lL : L.length ≤ 2097152 := by have := im_len Ho.out; omega
    have hcp := copy_dif Ho.out Om.out
    rw [hD] at ha hcp
    obtain ⟨q, hq2⟩ : ∃ q, q = sameM X Y L X Y M := ⟨_, rfl⟩
    have hz : (ar == 0) = q := by
      by_cases e : L = M
      · rw [hq2, hq.2 e, e, sameM_yes]; rfl
      · rw [hq2, sameM_no fun h => e h.2.2]; exact beq_false_of_ne fun h => e (hq.1 h)
    have HD : Hid (∀ (W : World) (u z : Value), RdI W u L → RdI W z M → Calls Try.prog 16 #[.agg #[.int .i64 X, .int .i64 Y, u], .agg #[.int .i64 X, .int .i64 Y, z]] W (RgAns D W)) := Lib.hid (fun W u z h1 h2 => by have h := difI_any X Y u L X Y z M W h1 h2; rw [hD] at h; exact h)
    have HC : Hid (∀ (W : World) (u z r : Value), RdI W u L → RdI W z M → RdR W r D → Calls Try.prog 17 #[.agg #[.int .i64 X, .int .i64 Y, u], .agg #[.int .i64 X, .int .i64 Y, z], .agg #[r]] W (ImAns X Y M W)) := Lib.hid (fun W u z r h1 h2 h3 => by have h := copyI_any X Y u L X Y z M r D W lL h1 h2 h3; rw [hcp] at h; exact h)
    have HP : Hid (∀ (W : World) (u : Value), RdI W u M → Calls Try.prog 18 #[.agg #[.int .i64 X, .int .i64 Y, u], .agg #[.int .i64 0, .int .i64 0, .int .i64 X, .int .i64 Y]] W (fun e w' => ∃ v, e = .returned (.tuple #[.agg #[.int .i64 X, .int .i64 Y, v], .bool true]) ∧ w'.ownsRow W.heap.size 3 1 v M.length (intCells M) ∧ Below W.heap.size W w')) := Lib.hid (fun W u h1 => by have h := cropI_any X Y u M ⟨0, 0, X, Y⟩ W h1; rw [crop_whole Om.out] at h; exact h)
    have HSI : Hid (∀ (W : World) (u z : Value), RdI W u M → RdI W z M → Calls Try.prog 19 #[.agg #[.int .i64 X, .int .i64 Y, u], .agg #[.int .i64 X, .int .i64 Y, z]] W (fun e w' => e = .returned (.bool true) ∧ Below W.heap.size W w')) := Lib.hid (fun W u z h1 h2 => by have h := sameII X Y u M X Y z M W h1 h2; unfold SameMAns at h; rw [sameM_yes] at h; exact h)
    have HSL : Hid (∀ (W : World) (u z : Value), RdI W u M → RdI W z M → Calls Try.prog 20 #[.agg #[.int .i64 X, .int .i64 Y, u], .agg #[.int .i64 X, .int .i64 Y, z]] W (fun e w' => e = .returned (.bool true) ∧ Below W.heap.size W w')) := Lib.hid (fun W u z h1 h2 => by have h := sameIL X Y u M X Y z M W h1 h2; unfold SameMAns at h; rw [sameM_yes] at h; exact h)
    have HSQ : Hid (∀ (W : World) (u z : Value), RdI W u L → RdI W z M → Calls Try.prog 20 #[.agg #[.int .i64 X, .int .i64 Y, u], .agg #[.int .i64 X, .int .i64 Y, z]] W (fun e w' => e = .returned (.bool q) ∧ Below W.heap.size W w')) := Lib.hid (fun W u z h1 h2 => by have h := sameIL X Y u L X Y z M W h1 h2; unfold SameMAns at h; rw [← hq2] at h; exact h)
    have HA : Hid (∀ (W : World) (r : Value), RdR W r D → Calls Try.prog 21 #[.agg #[r]] W (fun e w' => e = .returned (.int .i64 ar) ∧ Below W.heap.size W w')) := Lib.hid (fun W r h1 => by have h := areaI r D W h1; rw [ha] at h; exact h)
    unfold RgAns at HD
    unfold ImAns at HC
    have s1 := sz_mul Ho.out.1
    have hm := wrap_in (X * Y) (by omega) (by omega)
    have hle : decide (ar ≤ X * Y) = true := by simpa using ha1
    have HM := Lib.hid hm
    have HE := Lib.hid hle
    have HZ := Lib.hid hz
    clear hD ha hcp lL hq hq2 ha0 ha1 s1 hm hle hz hX hY
    obtain ⟨i0, i1, i2⟩ := Vi.cells
    obtain ⟨j0, j1, j2⟩ := Vj.cells
    go_wp2_with fail
    clear i0 i1 i2 j0 j1 j2
    refine (HD.out _ _ _ Vi.rd Vj.rd).mono ?_
    rintro e w6 ⟨vd, rfl, ud, hb⟩
    obtain ⟨Ad, cd, he⟩ := own_shape ud
    subst he
    have Vd := RgV.born hb ud
    replace hb := belI_call hb (belI_box w6 (.cells #[.slice Ad D.length cd] 34))
    replace Vi := Vi.call hb
    replace Vj := Vj.call hb
    replace K := belI_call K hb
    clear hb ud
    obtain ⟨i0, i1, i2⟩ := Vi.cells
    obtain ⟨j0, j1, j2⟩ := Vj.cells
    have d0 := Vd.cell
    go_wp2_with fail
    clear i0 i1 i2 j0 j1 j2 d0
    refine (HC.out _ _ _ _ Vi.rd Vj.rd Vd.rd).mono ?_
    rintro e w7 ⟨vx, rfl, ux, hb⟩
    obtain ⟨Ax, cx, he⟩ := ownI_shape ux
    subst he
    have Vx := ImV.born (X := X) (Y := Y) hb ux
    replace hb := belI_call hb (belI_box w7 (.cells #[.int .i64 X, .int .i64 Y, .slice Ax M.length cx] 26))
    replace Vi := Vi.call hb
    replace Vj := Vj.call hb
    replace Vd := Vd.call hb
    replace K := belI_call K hb
    clear hb ux
    obtain ⟨i0, i1, i2⟩ := Vi.cells
    obtain ⟨j0, j1, j2⟩ := Vj.cells
    have d0 := Vd.cell
    obtain ⟨x0, x1, x2⟩ := Vx.cells
    go_wp2_with fail
    clear i0 i1 i2 j0 j1 j2 d0 x0 x1 x2
    refine (HP.out _ _ Vj.rd).mono ?_
    rintro e w9 ⟨vc, rfl, uc, hb⟩
    obtain ⟨Ac, cc, he⟩ := ownI_shape uc
    subst he
    have Vc := ImV.born (X := X) (Y := Y) hb uc
    replace hb := belI_call hb (belI_box w9 (.cells #[.int .i64 X, .int .i64 Y, .slice Ac M.length cc] 26))
    replace Vi := Vi.call hb
    replace Vj := Vj.call hb
    replace Vd := Vd.call hb
    replace Vx := Vx.call hb
    replace K := belI_call K hb
    clear hb uc
    obtain ⟨i0, i1, i2⟩ := Vi.cells
    obtain ⟨j0, j1, j2⟩ := Vj.cells
    have d0 := Vd.cell
    obtain ⟨x0, x1, x2⟩ := Vx.cells
    obtain ⟨c0, c1, c2⟩ := Vc.cells
    go_upto_region 8 with fail
    clear i0 i1 i2 j0 j1 j2 d0 x0 x1 x2 c0 c1 c2
    obtain ⟨w8, hw8⟩ : ∃ W, W = w9.alloc (.cells #[.int .i64 X, .int .i64 Y, .slice Ac M.length cc] 26) := ⟨_, rfl⟩
    rw [← hw8]
    rw [← hw8] at Vi Vj Vd Vx Vc K
    clear hw8
    have Kw := K
    clear K
    have hm := HM.out
    have hle := HE.out
    have hz := HZ.out
    refine wp_region_held_drew (S := fun W => Below w8.heap.size w8 W) (by kernel_rfl) (Below.refl _ _).drew (fun hS => ?_)
    refine wpAnyH_take (i := 0) (v := .agg #[.int .i64 X, .int .i64 Y, .slice Ax M.length cx]) rfl (by kernel_rfl) (by kernel_rfl) (by kernel_rfl) (fun _ _ _ h => h) (Or.inl ⟨by kernel_rfl, by intro w' hSw; (try dsimp only at hSw); (obtain ⟨i0, i1, i2⟩ := (Vi.call hSw).cells); (obtain ⟨j0, j1, j2⟩ := (Vj.call hSw).cells); (obtain ⟨x0, x1, x2⟩ := (Vx.call hSw).cells); (obtain ⟨c0, c1, c2⟩ := (Vc.call hSw).cells); (have d0 := (Vd.call hSw).cell); go_simp⟩) (by assumption) ?_
    refine wpAnyH_take (i := 1) (v := .agg #[.int .i64 X, .int .i64 Y, .slice Aj M.length cj]) rfl (by kernel_rfl) (by kernel_rfl) (by kernel_rfl) (fun _ _ _ h => h) (Or.inl ⟨by kernel_rfl, by intro w' hSw; (try dsimp only at hSw); (obtain ⟨i0, i1, i2⟩ := (Vi.call hSw).cells); (obtain ⟨j0, j1, j2⟩ := (Vj.call hSw).cells); (obtain ⟨x0, x1, x2⟩ := (Vx.call hSw).cells); (obtain ⟨c0, c1, c2⟩ := (Vc.call hSw).cells); (have d0 := (Vd.call hSw).cell); go_simp⟩) (by assumption) ?_
    (try simp only [Act.put]); (try simp only [List.setIfInBounds_toArray]); (try simp only [List.set_cons_zero, List.set_cons_succ])
    refine wpAnyH_ready (rs := [2]) (by kernel_rfl) (by simp) ?_
    refine (AllReadyH.cons rfl (fun K hK => ?_) AllReadyH.nil)
    · rw [if_pos (by kernel_rfl)]
      (try simp only [List.getElem_toArray]); (try simp only [List.getElem_cons_succ]); (try simp only [List.getElem_cons_zero])
      go_simp
      with_reducible refine (HSI.out _ _ _ (Vx.call hS).rd (Vj.call hS).rd).mono ?_
      rintro e W' ⟨rfl, hb⟩
      dsimp only
      refine hK.out _ _ (belI_call hS hb) (fun hS => ?_)
      clear hK
      (try simp only [Act.put]); (try simp only [List.setIfInBounds_toArray]); (try simp only [List.set_cons_zero, List.set_cons_succ])
      refine wpAnyH_take (i := 3) (v := .bool true) rfl (by kernel_rfl) (by kernel_rfl) (by kernel_rfl) (fun _ _ _ h => h) (Or.inl ⟨by kernel_rfl, by intro w' hSw; (try dsimp only at hSw); (obtain ⟨i0, i1, i2⟩ := (Vi.call hSw).cells); (obtain ⟨j0, j1, j2⟩ := (Vj.call hSw).cells); (obtain ⟨x0, x1, x2⟩ := (Vx.call hSw).cells); (obtain ⟨c0, c1, c2⟩ := (Vc.call hSw).cells); (have d0 := (Vd.call hSw).cell); go_simp⟩) (by assumption) ?_
      refine wpAnyH_take (i := 4) (v := .agg #[.int .i64 X, .int .i64 Y, .slice Ax M.length cx]) rfl (by kernel_rfl) (by kernel_rfl) (by kernel_rfl) (fun _ _ _ h => h) (Or.inl ⟨by kernel_rfl, by intro w' hSw; (try dsimp only at hSw); (obtain ⟨i0, i1, i2⟩ := (Vi.call hSw).cells); (obtain ⟨j0, j1, j2⟩ := (Vj.call hSw).cells); (obtain ⟨x0, x1, x2⟩ := (Vx.call hSw).cells); (obtain ⟨c0, c1, c2⟩ := (Vc.call hSw).cells); (have d0 := (Vd.call hSw).cell); go_simp⟩) (by assumption) ?_
      refine wpAnyH_take (i := 5) (v := .agg #[.int .i64 X, .int .i64 Y, .slice Aj M.length cj]) rfl (by kernel_rfl) (by kernel_rfl) (by kernel_rfl) (fun _ _ _ h => h) (Or.inl ⟨by kernel_rfl, by intro w' hSw; (try dsimp only at hSw); (obtain ⟨i0, i1, i2⟩ := (Vi.call hSw).cells); (obtain ⟨j0, j1, j2⟩ := (Vj.call hSw).cells); (obtain ⟨x0, x1, x2⟩ := (Vx.call hSw).cells); (obtain ⟨c0, c1, c2⟩ := (Vc.call hSw).cells); (have d0 := (Vd.call hSw).cell); go_simp⟩) (by assumption) ?_
      (try simp only [Act.put]); (try simp only [List.setIfInBounds_toArray]); (try simp only [List.set_cons_zero, List.set_cons_succ])
      refine wpAnyH_ready (rs := [6]) (by kernel_rfl) (by simp) ?_
      refine (AllReadyH.cons rfl (fun K hK => ?_) AllReadyH.nil)
      · rw [if_pos (by kernel_rfl)]
        (try simp only [List.getElem_toArray]); (try simp only [List.getElem_cons_succ]); (try simp only [List.getElem_cons_zero])
        go_simp
        with_reducible refine (HSL.out _ _ _ (Vx.call hS).rd (Vj.call hS).rd).mono ?_
        rintro e W' ⟨rfl, hb⟩
        dsimp only
        refine hK.out _ _ (belI_call hS hb) (fun hS => ?_)
        clear hK
        (try simp only [Act.put]); (try simp only [List.setIfInBounds_toArray]); (try simp only [List.set_cons_zero, List.set_cons_succ])
        refine wpAnyH_take (i := 7) (v := .bool true) rfl (by kernel_rfl) (by kernel_rfl) (by kernel_rfl) (fun _ _ _ h => h) (Or.inl ⟨by kernel_rfl, by intro w' hSw; (try dsimp only at hSw); (obtain ⟨i0, i1, i2⟩ := (Vi.call hSw).cells); (obtain ⟨j0, j1, j2⟩ := (Vj.call hSw).cells); (obtain ⟨x0, x1, x2⟩ := (Vx.call hSw).cells); (obtain ⟨c0, c1, c2⟩ := (Vc.call hSw).cells); (have d0 := (Vd.call hSw).cell); go_simp⟩) (by assumption) ?_
        refine wpAnyH_take (i := 8) (v := .bool true) rfl (by kernel_rfl) (by kernel_rfl) (by kernel_rfl) (fun _ _ _ h => h) (Or.inl ⟨by kernel_rfl, by intro w' hSw; (try dsimp only at hSw); (obtain ⟨i0, i1, i2⟩ := (Vi.call hSw).cells); (obtain ⟨j0, j1, j2⟩ := (Vj.call hSw).cells); (obtain ⟨x0, x1, x2⟩ := (Vx.call hSw).cells); (obtain ⟨c0, c1, c2⟩ := (Vc.call hSw).cells); (have d0 := (Vd.call hSw).cell); go_simp⟩) (by assumption) ?_
        refine wpAnyH_take (i := 9) (v := .bool true) rfl (by kernel_rfl) (by kernel_rfl) (by kernel_rfl) (fun _ _ _ h => h) (Or.inl ⟨by kernel_rfl, by intro w' hSw; (try dsimp only at hSw); (obtain ⟨i0, i1, i2⟩ := (Vi.call hSw).cells); (obtain ⟨j0, j1, j2⟩ := (Vj.call hSw).cells); (obtain ⟨x0, x1, x2⟩ := (Vx.call hSw).cells); (obtain ⟨c0, c1, c2⟩ := (Vc.call hSw).cells); (have d0 := (Vd.call hSw).cell); go_simp⟩) (by assumption) ?_
        refine wpAnyH_take (i := 10) (v := .bool true) rfl (by kernel_rfl) (by kernel_rfl) (by kernel_rfl) (fun _ _ _ h => h) (Or.inl ⟨by kernel_rfl, by intro w' hSw; (try dsimp only at hSw); (obtain ⟨i0, i1, i2⟩ := (Vi.call hSw).cells); (obtain ⟨j0, j1, j2⟩ := (Vj.call hSw).cells); (obtain ⟨x0, x1, x2⟩ := (Vx.call hSw).cells); (obtain ⟨c0, c1, c2⟩ := (Vc.call hSw).cells); (have d0 := (Vd.call hSw).cell); go_simp⟩) (by assumption) ?_
        refine wpAnyH_take (i := 11) (v := .bool true) rfl (by kernel_rfl) (by kernel_rfl) (by kernel_rfl) (fun _ _ _ h => h) (Or.inl ⟨by kernel_rfl, by intro w' hSw; (try dsimp only at hSw); (obtain ⟨i0, i1, i2⟩ := (Vi.call hSw).cells); (obtain ⟨j0, j1, j2⟩ := (Vj.call hSw).cells); (obtain ⟨x0, x1, x2⟩ := (Vx.call hSw).cells); (obtain ⟨c0, c1, c2⟩ := (Vc.call hSw).cells); (have d0 := (Vd.call hSw).cell); go_simp⟩) (by assumption) ?_
        refine wpAnyH_take (i := 12) (v := .agg #[.int .i64 X, .int .i64 Y, .slice Ac M.length cc]) rfl (by kernel_rfl) (by kernel_rfl) (by kernel_rfl) (fun _ _ _ h => h) (Or.inl ⟨by kernel_rfl, by intro w' hSw; (try dsimp only at hSw); (obtain ⟨i0, i1, i2⟩ := (Vi.call hSw).cells); (obtain ⟨j0, j1, j2⟩ := (Vj.call hSw).cells); (obtain ⟨x0, x1, x2⟩ := (Vx.call hSw).cells); (obtain ⟨c0, c1, c2⟩ := (Vc.call hSw).cells); (have d0 := (Vd.call hSw).cell); go_simp⟩) (by assumption) ?_
        refine wpAnyH_take (i := 13) (v := .agg #[.int .i64 X, .int .i64 Y, .slice Aj M.length cj]) rfl (by kernel_rfl) (by kernel_rfl) (by kernel_rfl) (fun _ _ _ h => h) (Or.inl ⟨by kernel_rfl, by intro w' hSw; (try dsimp only at hSw); (obtain ⟨i0, i1, i2⟩ := (Vi.call hSw).cells); (obtain ⟨j0, j1, j2⟩ := (Vj.call hSw).cells); (obtain ⟨x0, x1, x2⟩ := (Vx.call hSw).cells); (obtain ⟨c0, c1, c2⟩ := (Vc.call hSw).cells); (have d0 := (Vd.call hSw).cell); go_simp⟩) (by assumption) ?_
        (try simp only [Act.put]); (try simp only [List.setIfInBounds_toArray]); (try simp only [List.set_cons_zero, List.set_cons_succ])
        refine wpAnyH_ready (rs := [14]) (by kernel_rfl) (by simp) ?_
        refine (AllReadyH.cons rfl (fun K hK => ?_) AllReadyH.nil)
        · rw [if_pos (by kernel_rfl)]
          (try simp only [List.getElem_toArray]); (try simp only [List.getElem_cons_succ]); (try simp only [List.getElem_cons_zero])
          go_simp
          with_reducible refine (HSL.out _ _ _ (Vc.call hS).rd (Vj.call hS).rd).mono ?_
          rintro e W' ⟨rfl, hb⟩
          dsimp only
          refine hK.out _ _ (belI_call hS hb) (fun hS => ?_)
          clear hK
          (try simp only [Act.put]); (try simp only [List.setIfInBounds_toArray]); (try simp only [List.set_cons_zero, List.set_cons_succ])
          refine wpAnyH_take (i := 15) (v := .bool true) rfl (by kernel_rfl) (by kernel_rfl) (by kernel_rfl) (fun _ _ _ h => h) (Or.inl ⟨by kernel_rfl, by intro w' hSw; (try dsimp only at hSw); (obtain ⟨i0, i1, i2⟩ := (Vi.call hSw).cells); (obtain ⟨j0, j1, j2⟩ := (Vj.call hSw).cells); (obtain ⟨x0, x1, x2⟩ := (Vx.call hSw).cells); (obtain ⟨c0, c1, c2⟩ := (Vc.call hSw).cells); (have d0 := (Vd.call hSw).cell); go_simp⟩) (by assumption) ?_
          refine wpAnyH_take (i := 16) (v := .bool true) rfl (by kernel_rfl) (by kernel_rfl) (by kernel_rfl) (fun _ _ _ h => h) (Or.inl ⟨by kernel_rfl, by intro w' hSw; (try dsimp only at hSw); (obtain ⟨i0, i1, i2⟩ := (Vi.call hSw).cells); (obtain ⟨j0, j1, j2⟩ := (Vj.call hSw).cells); (obtain ⟨x0, x1, x2⟩ := (Vx.call hSw).cells); (obtain ⟨c0, c1, c2⟩ := (Vc.call hSw).cells); (have d0 := (Vd.call hSw).cell); go_simp⟩) (by assumption) ?_
          refine wpAnyH_take (i := 17) (v := .agg #[.slice Ad D.length cd]) rfl (by kernel_rfl) (by kernel_rfl) (by kernel_rfl) (fun _ _ _ h => h) (Or.inl ⟨by kernel_rfl, by intro w' hSw; (try dsimp only at hSw); (obtain ⟨i0, i1, i2⟩ := (Vi.call hSw).cells); (obtain ⟨j0, j1, j2⟩ := (Vj.call hSw).cells); (obtain ⟨x0, x1, x2⟩ := (Vx.call hSw).cells); (obtain ⟨c0, c1, c2⟩ := (Vc.call hSw).cells); (have d0 := (Vd.call hSw).cell); go_simp⟩) (by assumption) ?_
          refine wpAnyH_take (i := 19) (v := .pointer (some ⟨bi, 0, none⟩)) rfl (by kernel_rfl) (by kernel_rfl) (by kernel_rfl) (fun _ _ _ h => h) (Or.inl ⟨by kernel_rfl, by intro w' hSw; (try dsimp only at hSw); (obtain ⟨i0, i1, i2⟩ := (Vi.call hSw).cells); (obtain ⟨j0, j1, j2⟩ := (Vj.call hSw).cells); (obtain ⟨x0, x1, x2⟩ := (Vx.call hSw).cells); (obtain ⟨c0, c1, c2⟩ := (Vc.call hSw).cells); (have d0 := (Vd.call hSw).cell); go_simp⟩) (by assumption) ?_
          refine wpAnyH_take (i := 20) (v := .int .i64 X) rfl (by kernel_rfl) (by kernel_rfl) (by kernel_rfl) (fun _ _ _ h => h) (Or.inl ⟨by kernel_rfl, by intro w' hSw; (try dsimp only at hSw); (obtain ⟨i0, i1, i2⟩ := (Vi.call hSw).cells); (obtain ⟨j0, j1, j2⟩ := (Vj.call hSw).cells); (obtain ⟨x0, x1, x2⟩ := (Vx.call hSw).cells); (obtain ⟨c0, c1, c2⟩ := (Vc.call hSw).cells); (have d0 := (Vd.call hSw).cell); go_simp⟩) (by assumption) ?_
          refine wpAnyH_take (i := 21) (v := .pointer (some ⟨bi, 1, none⟩)) rfl (by kernel_rfl) (by kernel_rfl) (by kernel_rfl) (fun _ _ _ h => h) (Or.inl ⟨by kernel_rfl, by intro w' hSw; (try dsimp only at hSw); (obtain ⟨i0, i1, i2⟩ := (Vi.call hSw).cells); (obtain ⟨j0, j1, j2⟩ := (Vj.call hSw).cells); (obtain ⟨x0, x1, x2⟩ := (Vx.call hSw).cells); (obtain ⟨c0, c1, c2⟩ := (Vc.call hSw).cells); (have d0 := (Vd.call hSw).cell); go_simp⟩) (by assumption) ?_
          refine wpAnyH_take (i := 22) (v := .int .i64 Y) rfl (by kernel_rfl) (by kernel_rfl) (by kernel_rfl) (fun _ _ _ h => h) (Or.inl ⟨by kernel_rfl, by intro w' hSw; (try dsimp only at hSw); (obtain ⟨i0, i1, i2⟩ := (Vi.call hSw).cells); (obtain ⟨j0, j1, j2⟩ := (Vj.call hSw).cells); (obtain ⟨x0, x1, x2⟩ := (Vx.call hSw).cells); (obtain ⟨c0, c1, c2⟩ := (Vc.call hSw).cells); (have d0 := (Vd.call hSw).cell); go_simp⟩) (by assumption) ?_
          refine wpAnyH_take (i := 23) (v := .int .i64 (X * Y)) rfl (by kernel_rfl) (by kernel_rfl) (by kernel_rfl) (fun _ _ _ h => h) (Or.inl ⟨by kernel_rfl, by intro w' hSw; (try dsimp only at hSw); (obtain ⟨i0, i1, i2⟩ := (Vi.call hSw).cells); (obtain ⟨j0, j1, j2⟩ := (Vj.call hSw).cells); (obtain ⟨x0, x1, x2⟩ := (Vx.call hSw).cells); (obtain ⟨c0, c1, c2⟩ := (Vc.call hSw).cells); (have d0 := (Vd.call hSw).cell); go_simp⟩) (by assumption) ?_
          (try simp only [Act.put]); (try simp only [List.setIfInBounds_toArray]); (try simp only [List.set_cons_zero, List.set_cons_succ])
          refine wpAnyH_ready (rs := [18]) (by kernel_rfl) (by simp) ?_
          refine (AllReadyH.cons rfl (fun K hK => ?_) AllReadyH.nil)
          · rw [if_pos (by kernel_rfl)]
            (try simp only [List.getElem_toArray]); (try simp only [List.getElem_cons_succ]); (try simp only [List.getElem_cons_zero])
            go_simp
            with_reducible refine (HA.out _ _ (Vd.call hS).rd).mono ?_
            rintro e W' ⟨rfl, hb⟩
            dsimp only
            refine hK.out _ _ (belI_call hS hb) (fun hS => ?_)
            clear hK
            (try simp only [Act.put]); (try simp only [List.setIfInBounds_toArray]); (try simp only [List.set_cons_zero, List.set_cons_succ])
            refine wpAnyH_take (i := 24) (v := .bool true) rfl (by kernel_rfl) (by kernel_rfl) (by kernel_rfl) (fun _ _ _ h => h) (Or.inl ⟨by kernel_rfl, by intro w' hSw; (try dsimp only at hSw); (obtain ⟨i0, i1, i2⟩ := (Vi.call hSw).cells); (obtain ⟨j0, j1, j2⟩ := (Vj.call hSw).cells); (obtain ⟨x0, x1, x2⟩ := (Vx.call hSw).cells); (obtain ⟨c0, c1, c2⟩ := (Vc.call hSw).cells); (have d0 := (Vd.call hSw).cell); go_simp⟩) (by assumption) ?_
            refine wpAnyH_take (i := 25) (v := .bool true) rfl (by kernel_rfl) (by kernel_rfl) (by kernel_rfl) (fun _ _ _ h => h) (Or.inl ⟨by kernel_rfl, by intro w' hSw; (try dsimp only at hSw); (obtain ⟨i0, i1, i2⟩ := (Vi.call hSw).cells); (obtain ⟨j0, j1, j2⟩ := (Vj.call hSw).cells); (obtain ⟨x0, x1, x2⟩ := (Vx.call hSw).cells); (obtain ⟨c0, c1, c2⟩ := (Vc.call hSw).cells); (have d0 := (Vd.call hSw).cell); go_simp⟩) (by assumption) ?_
            refine wpAnyH_take (i := 26) (v := .bool true) rfl (by kernel_rfl) (by kernel_rfl) (by kernel_rfl) (fun _ _ _ h => h) (Or.inl ⟨by kernel_rfl, by intro w' hSw; (try dsimp only at hSw); (obtain ⟨i0, i1, i2⟩ := (Vi.call hSw).cells); (obtain ⟨j0, j1, j2⟩ := (Vj.call hSw).cells); (obtain ⟨x0, x1, x2⟩ := (Vx.call hSw).cells); (obtain ⟨c0, c1, c2⟩ := (Vc.call hSw).cells); (have d0 := (Vd.call hSw).cell); go_simp⟩) (by assumption) ?_
            refine wpAnyH_take (i := 27) (v := .agg #[.slice Ad D.length cd]) rfl (by kernel_rfl) (by kernel_rfl) (by kernel_rfl) (fun _ _ _ h => h) (Or.inl ⟨by kernel_rfl, by intro w' hSw; (try dsimp only at hSw); (obtain ⟨i0, i1, i2⟩ := (Vi.call hSw).cells); (obtain ⟨j0, j1, j2⟩ := (Vj.call hSw).cells); (obtain ⟨x0, x1, x2⟩ := (Vx.call hSw).cells); (obtain ⟨c0, c1, c2⟩ := (Vc.call hSw).cells); (have d0 := (Vd.call hSw).cell); go_simp⟩) (by assumption) ?_
            refine wpAnyH_take (i := 30) (v := .agg #[.int .i64 X, .int .i64 Y, .slice A L.length c]) rfl (by kernel_rfl) (by kernel_rfl) (by kernel_rfl) (fun _ _ _ h => h) (Or.inl ⟨by kernel_rfl, by intro w' hSw; (try dsimp only at hSw); (obtain ⟨i0, i1, i2⟩ := (Vi.call hSw).cells); (obtain ⟨j0, j1, j2⟩ := (Vj.call hSw).cells); (obtain ⟨x0, x1, x2⟩ := (Vx.call hSw).cells); (obtain ⟨c0, c1, c2⟩ := (Vc.call hSw).cells); (have d0 := (Vd.call hSw).cell); go_simp⟩) (by assumption) ?_
            refine wpAnyH_take (i := 31) (v := .agg #[.int .i64 X, .int .i64 Y, .slice Aj M.length cj]) rfl (by kernel_rfl) (by kernel_rfl) (by kernel_rfl) (fun _ _ _ h => h) (Or.inl ⟨by kernel_rfl, by intro w' hSw; (try dsimp only at hSw); (obtain ⟨i0, i1, i2⟩ := (Vi.call hSw).cells); (obtain ⟨j0, j1, j2⟩ := (Vj.call hSw).cells); (obtain ⟨x0, x1, x2⟩ := (Vx.call hSw).cells); (obtain ⟨c0, c1, c2⟩ := (Vc.call hSw).cells); (have d0 := (Vd.call hSw).cell); go_simp⟩) (by assumption) ?_
            (try simp only [Act.put]); (try simp only [List.setIfInBounds_toArray]); (try simp only [List.set_cons_zero, List.set_cons_succ])
            refine wpAnyH_ready (rs := [28]) (by kernel_rfl) (by simp) ?_
            refine (AllReadyH.cons rfl (fun K hK => ?_) AllReadyH.nil)
            · rw [if_pos (by kernel_rfl)]
              (try simp only [List.getElem_toArray]); (try simp only [List.getElem_cons_succ]); (try simp only [List.getElem_cons_zero])
              go_simp
              with_reducible refine (HA.out _ _ (Vd.call hS).rd).mono ?_
              rintro e W' ⟨rfl, hb⟩
              dsimp only
              refine hK.out _ _ (belI_call hS hb) (fun hS => ?_)
              clear hK
              (try simp only [Act.put]); (try simp only [List.setIfInBounds_toArray]); (try simp only [List.set_cons_zero, List.set_cons_succ])
              refine wpAnyH_take (i := 29) (v := .bool q) rfl (by kernel_rfl) (by kernel_rfl) (by kernel_rfl) (fun _ _ _ h => h) (Or.inl ⟨by kernel_rfl, by intro w' hSw; (try dsimp only at hSw); (obtain ⟨i0, i1, i2⟩ := (Vi.call hSw).cells); (obtain ⟨j0, j1, j2⟩ := (Vj.call hSw).cells); (obtain ⟨x0, x1, x2⟩ := (Vx.call hSw).cells); (obtain ⟨c0, c1, c2⟩ := (Vc.call hSw).cells); (have d0 := (Vd.call hSw).cell); go_simp⟩) (by assumption) ?_
              (try simp only [Act.put]); (try simp only [List.setIfInBounds_toArray]); (try simp only [List.set_cons_zero, List.set_cons_succ])
              refine wpAnyH_ready (rs := [32]) (by kernel_rfl) (by simp) ?_
              refine (AllReadyH.cons rfl (fun K hK => ?_) AllReadyH.nil)
              · rw [if_pos (by kernel_rfl)]
                (try simp only [List.getElem_toArray]); (try simp only [List.getElem_cons_succ]); (try simp only [List.getElem_cons_zero])
                go_simp
                with_reducible refine (HSQ.out _ _ _ (Vi.call hS).rd (Vj.call hS).rd).mono ?_
                rintro e W' ⟨rfl, hb⟩
                dsimp only
                refine hK.out _ _ (belI_call hS hb) (fun hS => ?_)
                clear hK
                (try simp only [Act.put]); (try simp only [List.setIfInBounds_toArray]); (try simp only [List.set_cons_zero, List.set_cons_succ])
                refine wpAnyH_take (i := 33) (v := .bool true) rfl (by kernel_rfl) (by kernel_rfl) (by kernel_rfl) (fun _ _ _ h => h) (Or.inl ⟨by kernel_rfl, by intro w' hSw; (try dsimp only at hSw); (obtain ⟨i0, i1, i2⟩ := (Vi.call hSw).cells); (obtain ⟨j0, j1, j2⟩ := (Vj.call hSw).cells); (obtain ⟨x0, x1, x2⟩ := (Vx.call hSw).cells); (obtain ⟨c0, c1, c2⟩ := (Vc.call hSw).cells); (have d0 := (Vd.call hSw).cell); go_simp⟩) (by assumption) ?_
                refine wpAnyH_take (i := 34) (v := .bool true) rfl (by kernel_rfl) (by kernel_rfl) (by kernel_rfl) (fun _ _ _ h => h) (Or.inl ⟨by kernel_rfl, by intro w' hSw; (try dsimp only at hSw); (obtain ⟨i0, i1, i2⟩ := (Vi.call hSw).cells); (obtain ⟨j0, j1, j2⟩ := (Vj.call hSw).cells); (obtain ⟨x0, x1, x2⟩ := (Vx.call hSw).cells); (obtain ⟨c0, c1, c2⟩ := (Vc.call hSw).cells); (have d0 := (Vd.call hSw).cell); go_simp⟩) (by assumption) ?_
                refine wpAnyH_take (i := 35) (v := .bool true) rfl (by kernel_rfl) (by kernel_rfl) (by kernel_rfl) (fun _ _ _ h => h) (Or.inl ⟨by kernel_rfl, by intro w' hSw; (try dsimp only at hSw); (obtain ⟨i0, i1, i2⟩ := (Vi.call hSw).cells); (obtain ⟨j0, j1, j2⟩ := (Vj.call hSw).cells); (obtain ⟨x0, x1, x2⟩ := (Vx.call hSw).cells); (obtain ⟨c0, c1, c2⟩ := (Vc.call hSw).cells); (have d0 := (Vd.call hSw).cell); go_simp⟩) (by assumption) ?_
                refine wpAnyH_done (by kernel_rfl) ?_ _
                have Kf := belI_call Kw hS
                go_wp2_with fail
                go_ret
                exact ⟨rfl, Kf⟩
end Go.Proofs.Ytmjndoedchiggaa
