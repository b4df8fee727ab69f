/- The walk of the law FnLayouts: it returns true for every code. -/
import Derived.Test.YtokniebejilcbaaMA
import Derived.Test.YtokniebejilcbaaMB
import Derived.Test.YtokniebejilcbaaDrwI
import Derived.Test.YtokniebejilcbaaLyI
import Derived.Test.YtokniebejilcbaaB1sa
import Derived.Test.YtokniebejilcbaaLdI
import Derived.Test.YtokniebejilcbaaProg
import Derived.WalkKit
import Derived.ProofKit
import Derived.OpenShut
import Derived.WalkLawsBesides
import Derived.WalkSpells
import Derived.ShutString
import Derived.ChangeOld
import Derived.Below
import Derived.Lib.Hide
import Derived.BigQuiet
import Derived.Deep.QuietTactic
import Derived.Maps.AppendAt
import Derived.Handy
import Derived.Deep.OwnRows
import Derived.Laws.BitsAllLaws
import Derived.Lib.QuoteBits
import Derived.Deep.Draws
import Derived.OwnWalk
import Derived.Deep.AppendLies
import Derived.Deep.LoopGhost
import Derived.Deep.Onto
import Derived.Test.YtokniebejilcbaaShelf
import Derived.Laws.CopyOwn
import Derived.Deep.RegionLaw
import Derived.Deep.RegionHeld3
import Derived.Deep.DeepCutAuto
import Derived.Great.BuildSlice
import Derived.Deep.MidRow
import Derived.Deep.WholeRow
import Derived.Laws.AppendOwn
import Derived.RangeFuncNested
import Derived.RangeFuncCalls
import Derived.RangeFuncFrom
import Derived.Shelf.Abstract
import Derived.Shelf.RegionOpen
import Derived.OwnWalkIn
import Derived.TacticsInMore
import Derived.LoopNIn
import Derived.LoopIn
import Derived.Carry
import Derived.Maps.Own
import Derived.ChangeKeysEq
import Derived.Deep.RegionWith
import Derived.Shelf.RegionOpenPlain
import Derived.Lib.SliceRun
import Derived.Deep.DeepAppendRoom
namespace Go.Proofs.Ytokniebejilcbaa
open Go.RowKit
theorem ld_calls {P : Program} {f : FuncId} {args : Array Value} {I : Im} {b : Bool} {V : World} (h : Calls P f args V (LdAns I b V)) :
  Calls P f args V fun e w' => ∃ A c, e = .returned (.tuple #[.agg #[.int .i64 I.w, .int .i64 I.h, .slice A I.d.length c], .bool b]) ∧ RdI w' (.slice A I.d.length c) I.d ∧ Below V.heap.size V w' := h.mono fun e w' ha => by
 obtain ⟨u, rfl, ho, hb⟩ := ha
 obtain ⟨A, c, rfl⟩ := ownI_shape ho
 exact ⟨A, c, rfl, RdI.of_own ho, hb⟩
theorem intCells_append' (M L : List Int) : intCells (M ++ L) = intCells M ++ intCells L := by unfold intCells; rw [List.map_append]
theorem rd_one {w : World} {g : Nat} {z : Int} (h : BkAt w g 3 #[.int .i64 z]) : RdI w (.slice (some ⟨g, 0, none⟩) 1 1) [z] := RdI.one h
theorem own_at {w : World} {B n g c : Nat} {e : TypeId} {xs : List Value} (h : w.ownsRow B e 1 (.slice (some ⟨g, 0, none⟩) n c) n xs) : w.ownsRow g e 1 (.slice (some ⟨g, 0, none⟩) n c) n xs := own_rebase h fun b hb => by
 have e2 : b = g := by simpa [Value.ownBlock] using hb
 omega
theorem wp_buildE {op : Oper} {a : Act} {w : World} {K : Act → World → Prop} {Q : Exit → Act → World → Prop} (d : Nat) (ho : op.op = .buildSlice 26 0 #[]) (hd : op.dst = some d)
  (h : ∀ g W', Below w.heap.size w W' → W'.ownsRow g 3 1 (.slice (some ⟨g, 0, none⟩) 0 0) 0 (intCells []) → w.heap.size ≤ g → g < W'.heap.size → K (a.put (some d) (.slice (some ⟨g, 0, none⟩) 0 0)) W') : op.wp Try.prog a w K Q := by
 have h1 := h w.heap.size (w.alloc (.cells #[] 3)) (belI_box _ _) (ownI_zero w) (Nat.le_refl _) (by simp)
 have hz := run_build0I w
 unfold Oper.wp execOp
 simp only [ho, List.map_toArray, List.map_nil, Sem.run_bind, hz, Result.andThen_ok, Sem.run_pure]
 rw [← hd] at h1
 exact h1
theorem wp_build1K {op : Oper} {a : Act} {w : World} {K : Act → World → Prop} {Q : Exit → Act → World → Prop} (d : Nat) (ho : op.op = .buildSlice 26 1 #[(0, .const (.int .i64 1))]) (hd : op.dst = some d)
  (h : ∀ g W', Below w.heap.size w W' → BkAt W' g 3 #[.int .i64 1] → w.heap.size ≤ g → g < W'.heap.size → K (a.put (some d) (.slice (some ⟨g, 0, none⟩) 1 1)) W') : op.wp Try.prog a w K Q := by
 have h1 := h w.heap.size (w.alloc (.cells #[.int .i64 1] 3)) (belI_box _ _) (BkAt.newAt rfl _ _) (Nat.le_refl _) (by simp)
 have hz := run_build1I 1 w
 unfold Oper.wp execOp
 simp only [ho, List.map_toArray, List.map_cons, List.map_nil, Act.eval, Sem.run_bind, hz, Result.andThen_ok, Sem.run_pure]
 rw [← hd] at h1
 exact h1
theorem wp_appendK {o : Oper} {a : Act} {w : World} {K : Act → World → Prop} {Q : Exit → Act → World → Prop} (s x : Operand) (ho : o.op = .call { callee := .builtin .append, args := #[s, x], argTypes := #[26, 26] })
    (g n c t : Nat) (M MM : List Int) (hs : a.eval s = .slice (some ⟨g, 0, none⟩) n c) (hown : w.ownsRow g 3 1 (.slice (some ⟨g, 0, none⟩) n c) n (intCells M)) (u : Value) (L : List Int) (hx : a.eval x = u) (hu : RdI w u L) (ht : t = n + L.length) (hM : MM = M ++ L) (h63 : t ≤ 1000000) (hb : g ≤ w.heap.size)
    (h : ∀ g' c' w', w'.ownsRow g 3 1 (.slice (some ⟨g', 0, none⟩) t c') t (intCells MM) → w.grownBy w' (some g) → (g' = g ∨ g' = w.heap.size) → K (a.put o.dst (.slice (some ⟨g', 0, none⟩) t c')) w') : o.wp Try.prog a w K Q := by
  subst ht hM
  refine wp_appendI s x ho g _ n (intCells M) hs hown u L hx hu (by omega) hb fun v' w' h1 h2 h3 => ?_
  rw [← intCells_append'] at h1
  obtain ⟨A, c', rfl⟩ := ownI_shape h1
  cases A with
  | none => rcases h3 with h3 | h3 <;> simp [Value.ownBlock] at h3
  | some q =>
    obtain ⟨q1, q2, q3⟩ : q.block = q.block ∧ q = ⟨q.block, 0, none⟩ ∧ (q.block = g ∨ q.block = w.heap.size) := by
      refine ⟨rfl, ?_, ?_⟩
      · rcases h1.2 with ⟨e, _⟩ | ⟨g', cap, cur, e, _⟩
        · cases e
        · injection e with e _ _
          injection e with e
          rw [e]
      · rcases h3 with h3 | h3
        · exact .inl (by simpa [Value.ownBlock] using h3)
        · exact .inr (by simpa [Value.ownBlock] using h3)
    rw [q2] at h1 ⊢
    exact h q.block c' w' h1 h2 q3
set_option maxHeartbeats 8000000 in
set_option maxRecDepth 10000 in
theorem walk_FnLayouts (a0 : Option Addr) (len cap : Nat) (zs : List Int) (w : World) (hrow : IsRow .u8 w a0 len cap zs) :
  Calls Try.prog 7 #[.slice a0 len cap] w fun e w' => e = .returned (.bool true) ∧ Below w.heap.size w w' := by
 obtain ⟨i0, hi, hz0, hz1, hz2⟩ := info_parts infoInt
 by_cases hbig : len ≤ 1048576
 rotate_left
 ·go_enter Try.func7, Try.ntmps7
  go_wp2_with fail
  refine (big_yes _ _ _ _ (by omega)).mono ?_
  rintro e w1 ⟨rfl, rfl⟩
  go_wp2_with fail
  go_ret
  exact ⟨rfl, Below.refl _ _⟩
 go_enter Try.func7, Try.ntmps7
 go_wp2_with fail
 refine (big_no _ _ _ _ hbig).mono ?_
 rintro e w1 ⟨rfl, rfl⟩
 go_wp2_with fail
 refine (drawImage_any _ _ _ _ zs hrow).mono ?_
 rintro e w1 ⟨X, Y, L, v, rfl, ho, hX, hY, hown, K⟩
 obtain ⟨W, H, rfl, rfl, wl, wh, hl, hh, hL⟩ := im_nat ho
 clear hL
 obtain ⟨A, c, he⟩ := ownI_shape hown
 subst he
 have Vi := ImV.born (X := (W : Int)) (Y := (H : Int)) K hown
 replace K := belI_call K (belI_box w1 (.cells #[.int .i64 (W : Int), .int .i64 (H : Int), .slice A L.length c] 32))
 obtain ⟨bi, hbi⟩ : ∃ b, b = w1.heap.size := ⟨_, rfl⟩
 obtain ⟨wi, hwi⟩ : ∃ V, V = w1.alloc (.cells #[.int .i64 (W : Int), .int .i64 (H : Int), .slice A L.length c] 32) := ⟨_, rfl⟩
 rw [← hbi, ← hwi] at Vi
 rw [← hwi] at K
 have HWi := Lib.hid hwi
 have HBi := Lib.hid hbi
 clear hrow hbig hown hwi hbi
 obtain ⟨Vi_0, Vi_1, Vi_2⟩ := Vi.cells
 go_wp2_with fail
 rw [← HWi.out]
 clear Vi_0 Vi_1 Vi_2
 rw [← HBi.out]
 clear HWi HBi
 have Ho := Lib.hid ho
 have HSM : Hid (∀ (V : World) (u z : Value), RdI V u L → RdI V z L → Calls Try.prog 31 #[.agg #[.int .i64 (W : Int), .int .i64 (H : Int), u], .agg #[.int .i64 (W : Int), .int .i64 (H : Int), z]] V (fun e w' => e = .returned (.bool true) ∧ Below V.heap.size V w')) := Lib.hid (fun V u z h1 h2 => by have h := sameIL (W : Int) (H : Int) u L (W : Int) (H : Int) z L V h1 h2; unfold SameMAns at h; rwa [sameM_yes] at h)
 go_loopw [4] (fun s4 wr => ∃ k : Nat, k ≤ 3 ∧ s4 = .int .i64 k ∧ Hid (Below wi.heap.size wi wr)) (fun s4 _ => 3 - (intOf s4).toNat)
 case atStart => exact ⟨0, by omega, rfl, Lib.hid (Below.refl _ _)⟩
 case round =>
  obtain ⟨k, hk, rfl, HB⟩ := hrel
  by_cases hlt : k < 3
  ·have k3 : (k : Int) < 3 := by omega
   have k0 : (0 : Int) ≤ (k : Int) := by omega
   have k2 : (k : Int) ≤ 2 := by omega
   obtain ⟨M, hM⟩ : ∃ M, M = stM W H L k := ⟨_, rfl⟩
   have hML : M.length ≤ 512 := by rw [hM]; exact stM_len _ _ _ _
   have hML2 : 0 + M.length ≤ 17592186044416 := by omega
   have HST := fun V u h => st_calls (stI W H L k u V h)
   rw [stB_yes Ho.out k0 k2, ← hM] at HST
   have HLD := fun V u h => ld_calls (ldI W H k u M V h (by omega))
   have e1 := ld_back Ho.out k0 k2
   rw [← hM] at e1
   rw [e1.1, e1.2] at HLD
   dsimp only at HLD
   have HMR := fun V u h => ld_calls (ldI W H k u (M ++ [1]) V h (by simp; omega))
   have e2 := ld_more (z := 1) Ho.out k0 k2
   rw [← hM] at e2
   rw [e2.1, e2.2] at HMR
   dsimp only [List.length_nil] at HMR
   have HST := Lib.hid HST
   have HLD := Lib.hid HLD
   have HMR := Lib.hid HMR
   have Vr := Vi.call HB.out
   clear hM e1 e2
   obtain ⟨x0, x1, x2⟩ := Vr.cells
   go_wp2_with fail
   refine (HST.out _ _ (RdI.of_own Vr.own)).mono ?_
   rintro e w2 ⟨A2, c2', rfl, hr2, hb2⟩
   have V2 := Vr.call hb2
   have B2 := belI_call HB.out hb2
   clear x0 x1 x2
   obtain ⟨x0, x1, x2⟩ := V2.cells
   go_wp2_with fail
   refine (HLD.out _ _ hr2).mono ?_
   rintro e w3 ⟨A3, c3, rfl, hr3, hb3⟩
   obtain ⟨w4, hw4⟩ : ∃ V, V = w3.alloc (.cells #[.int .i64 W, .int .i64 H, .slice A3 L.length c3] 32) := ⟨_, rfl⟩
   have hb4 : Below w3.heap.size w3 w4 := by rw [hw4]; exact belI_box _ _
   have V4 := (V2.call hb3).call hb4
   have B4 := belI_call (belI_call B2 hb3) hb4
   have hr4 := (hr2.call hb3).call hb4
   have hj4 : ImAt w4 w3.heap.size 32 W H (.slice A3 L.length c3) := by rw [hw4]; exact ImAt.new _ _ _ _ _
   have hrj := hr3.call hb4
   clear x0 x1 x2
   obtain ⟨x0, x1, x2⟩ := V4.cells
   obtain ⟨y0, y1, y2⟩ := hj4.cells
   rw [hw4] at x0 x1 x2 y0 y1 y2
   have HW4 := Lib.hid hw4
   clear hw4
   go_wp2_with fail
   rw [← HW4.out]
   refine (HSM.out _ _ _ (RdI.of_own V4.own) hrj).mono ?_
   rintro e w5 ⟨rfl, hb5⟩
   have V5 := V4.call hb5
   have B5 := belI_call B4 hb5
   have hr5 := hr4.call hb5
   clear x0 x1 x2 y0 y1 y2 Vr V2 V4 B2 B4 hr2 hr3 hr4 hj4 hrj hb2 hb3 hb4 hb5 HB
   go_upto_region 11 with fail
   go_cut [10] (fun s10 wx => s10 = .bool false ∧ Hid (Below w5.heap.size w5 wx))
   case first =>
    refine wp_region_held_drew (S := fun V => Below w5.heap.size w5 V) (by kernel_rfl) (Below.refl _ _).drew (fun hS => ?_)
    refine tkH (i := 1) (v := .slice A2 M.length c2') rfl ?_
    refine tkH (i := 5) (v := .pointer (some ⟨bi, 0, none⟩)) rfl ?_
    refine tcH (i := 6) (v := .int .i64 (W : Int)) rfl (by intro w' hSw; (try dsimp only at hSw); (obtain ⟨x0, x1, x2⟩ := (V5.call hSw).cells); go_simp) ?_
    refine tkH (i := 7) (v := .pointer (some ⟨bi, 1, none⟩)) rfl ?_
    refine tcH (i := 8) (v := .int .i64 (H : Int)) rfl (by intro w' hSw; (try dsimp only at hSw); (obtain ⟨x0, x1, x2⟩ := (V5.call hSw).cells); go_simp) ?_
    refine tkH (i := 9) (v := .int .i64 (k : Int)) rfl ?_
    (try simp only [Act.put]); (try simp only [zPa]); (try simp only [zPb, zPc])
    refine wpAnyH_ready (rs := [0, 3, 14]) (by kernel_rfl) (by simp) ?_
    refine (AllReadyH.cons rfl (fun K hK => ?_) (AllReadyH.cons rfl (fun K hK => ?_) (AllReadyH.cons rfl (fun K hK => ?_) AllReadyH.nil)))
    ·rw [if_pos (by kernel_rfl)]
     (try simp only [zGa]); (try simp only [zGb]); (try simp only [zGc])
     refine wp_buildE 51 rfl rfl ?_
     intro g0 W' hb hE l0 u0
     have n0 := Nat.le_trans hS.size l0
     (try have e05 : g5 < g0 := Nat.lt_of_lt_of_le u5 l0)
     (try have e014 : b14 < g0 := Nat.lt_of_lt_of_le u14 l0)
     refine hK.out _ _ (hS.trans (hb.mono hS.size)) (fun hS => ?_)
     clear hK
     (try simp only [Act.put]); (try simp only [zPa]); (try simp only [zPb, zPc])
     refine wpAnyH_ready (rs := [2, 3, 14]) (by kernel_rfl) (by simp) ?_
     refine (AllReadyH.cons rfl (fun K hK => ?_) (AllReadyH.cons rfl (fun K hK => ?_) (AllReadyH.cons rfl (fun K hK => ?_) AllReadyH.nil)))
     ·rw [if_pos (by kernel_rfl)]
      (try simp only [zGa]); (try simp only [zGb]); (try simp only [zGc])
      refine wp_appendK (.tmp 51) (.tmp 52) rfl g0 0 0 M.length [] M (by first | with_reducible rfl | (go_simp; done) | rfl) hE (.slice A2 M.length c2') M (by first | with_reducible rfl | (go_simp; done) | rfl) (hr5.call hS) (by omega) rfl (by omega) (Nat.le_of_lt u0) ?_
      intro g1 c1' W' hW hgr f1
      have n1 : w5.heap.size ≤ g1 := by have := hS.size; omega
      have u1 := (hW.lt g1 rfl).2
      (try have e114 : b14 ≠ g1 := by omega)
      refine hK.out _ _ (hS.grown hgr hS.size (fun k hk => by cases hk; exact n0)) (fun hS => ?_)
      clear hK
      (try simp only [Act.put]); (try simp only [zPa]); (try simp only [zPb, zPc])
      refine wpAnyH_ready (rs := [3, 14]) (by kernel_rfl) (by simp) ?_
      refine (AllReadyH.cons rfl (fun K hK => ?_) (AllReadyH.cons rfl (fun K hK => ?_) AllReadyH.nil))
      ·rw [if_pos (by kernel_rfl)]
       (try simp only [zGa]); (try simp only [zGb]); (try simp only [zGc])
       refine wp_build1K 54 rfl rfl ?_
       intro g5 W' hb hR5 l5 u5
       (try have e50 : g0 < g5 := Nat.lt_of_lt_of_le u0 l5)
       have hW := ownI_call hW hb
       have u1 := Nat.lt_of_lt_of_le u1 hb.size
       refine hK.out _ _ (hS.trans (hb.mono hS.size)) (fun hS => ?_)
       clear hK
       (try simp only [Act.put]); (try simp only [zPa]); (try simp only [zPb, zPc])
       refine wpAnyH_ready (rs := [4, 14]) (by kernel_rfl) (by simp) ?_
       refine (AllReadyH.cons rfl (fun K hK => ?_) (AllReadyH.cons rfl (fun K hK => ?_) AllReadyH.nil))
       ·rw [if_pos (by kernel_rfl)]
        (try simp only [zGa]); (try simp only [zGb]); (try simp only [zGc])
        refine wp_appendK (.tmp 53) (.tmp 54) rfl g1 M.length c1' (M.length + 1) M (M ++ [1]) (by first | with_reducible rfl | (go_simp; done) | rfl) (own_at hW) (.slice (some ⟨g5, 0, none⟩) 1 1) [1] (by first | with_reducible rfl | (go_simp; done) | rfl) (rd_one hR5) rfl rfl (by omega) (Nat.le_of_lt (hW.lt g1 rfl).2) ?_
        intro g2 c2x W' hX hgr f2
        have n2 : w5.heap.size ≤ g2 := by have := hS.size; omega
        refine hK.out _ _ (hS.grown hgr hS.size (fun k hk => by cases hk; exact n1)) (fun hS => ?_)
        clear hK
        (try simp only [Act.put]); (try simp only [zPa]); (try simp only [zPb, zPc])
        refine wpAnyH_ready (rs := [10, 14]) (by kernel_rfl) (by simp) ?_
        refine (AllReadyH.cons rfl (fun K hK => ?_) (AllReadyH.cons rfl (fun K hK => ?_) AllReadyH.nil))
        ·rw [if_pos (by kernel_rfl)]
         (try simp only [zGa]); (try simp only [zGb]); (try simp only [zGc])
         go_simp
         with_reducible refine (HMR.out _ _ (RdI.of_own hX)).mono ?_
         rintro e W' ⟨A9, c9, rfl, _, hb⟩
         dsimp only
         have hX := ownI_call hX hb
         refine hK.out _ _ (hS.trans (hb.mono hS.size)) (fun hS => ?_)
         clear hK
         (try simp only [Act.put]); (try simp only [zPa]); (try simp only [zPb, zPc])
         refine tkH (i := 11) (v := .tuple #[.agg #[.int .i64 0, .int .i64 0, .slice A9 0 c9], .bool false]) rfl ?_
         refine tkH (i := 12) (v := .agg #[.int .i64 0, .int .i64 0, .slice A9 0 c9]) rfl ?_
         refine tkH (i := 13) (v := .bool false) rfl ?_
         (try simp only [Act.put]); (try simp only [zPa]); (try simp only [zPb, zPc])
         refine wpAnyH_ready (rs := [14]) (by kernel_rfl) (by simp) ?_
         refine (AllReadyH.cons rfl (fun K hK => ?_) AllReadyH.nil)
         ·rw [if_pos (by kernel_rfl)]
          (try simp only [zGa]); (try simp only [zGb]); (try simp only [zGc])
          refine wp_alloc_bk 32 #[.int .i64 0, .int .i64 0, .slice none 0 0] (fun _ => by kernel_rfl) rfl 9 rfl ?_
          intro b14 W' hb hB14 l14
          have n14 := Nat.le_trans hS.size l14
          have u14 := hB14.lt
          (try have e140 : g0 < b14 := Nat.lt_of_lt_of_le u0 l14)
          (try have e141 : g1 < b14 := Nat.lt_of_lt_of_le u1 l14)
          have hX := ownI_call hX hb
          refine hK.out _ _ (hS.trans (hb.mono hS.size)) (fun hS => ?_)
          clear hK
          (try simp only [Act.put]); (try simp only [zPa]); (try simp only [zPb, zPc])
          refine wpAnyH_ready (rs := [15]) (by kernel_rfl) (by simp) ?_
          refine (AllReadyH.cons rfl (fun K hK => ?_) AllReadyH.nil)
          ·rw [if_pos (by kernel_rfl)]
           (try simp only [zGa]); (try simp only [zGb]); (try simp only [zGc])
           refine wp_store_bk 32 (.tmp 9) (.tmp 62) rfl b14 _ #[.int .i64 0, .int .i64 0, .slice none 0 0] #[.int .i64 0, .int .i64 0, .slice A9 0 c9] (by kernel_rfl) rfl (by simp [Value.oneCell']) rfl (by first | with_reducible rfl | (go_simp; done) | rfl) hB14 ?_
           intro W' _ hgr
           skip
           skip
           skip
           refine hK.out _ _ (hS.grown hgr hS.size (fun k hk => by cases hk; exact n14)) (fun hS => ?_)
           clear hK
           (try simp only [Act.put]); (try simp only [zPa]); (try simp only [zPb, zPc])
           refine tkH (i := 16) (v := .bool false) rfl ?_
           go_simp
           refine wpAnyH_done (by kernel_rfl) ?_ _
           go_wp2_with fail
           go_meet
           case rel => exact ⟨rfl, Lib.hid hS⟩
        ·rw [if_pos (by kernel_rfl)]
         (try simp only [zGa]); (try simp only [zGb]); (try simp only [zGc])
         refine wp_alloc_bk 32 #[.int .i64 0, .int .i64 0, .slice none 0 0] (fun _ => by kernel_rfl) rfl 9 rfl ?_
         intro b14 W' hb hB14 l14
         have n14 := Nat.le_trans hS.size l14
         have u14 := hB14.lt
         (try have e140 : g0 < b14 := Nat.lt_of_lt_of_le u0 l14)
         (try have e141 : g1 < b14 := Nat.lt_of_lt_of_le u1 l14)
         have hX := ownI_call hX hb
         refine hK.out _ _ (hS.trans (hb.mono hS.size)) (fun hS => ?_)
         clear hK
         (try simp only [Act.put]); (try simp only [zPa]); (try simp only [zPb, zPc])
         refine wpAnyH_ready (rs := [10]) (by kernel_rfl) (by simp) ?_
         refine (AllReadyH.cons rfl (fun K hK => ?_) AllReadyH.nil)
         ·rw [if_pos (by kernel_rfl)]
          (try simp only [zGa]); (try simp only [zGb]); (try simp only [zGc])
          go_simp
          with_reducible refine (HMR.out _ _ (RdI.of_own hX)).mono ?_
          rintro e W' ⟨A9, c9, rfl, _, hb⟩
          dsimp only
          have hX := ownI_call hX hb
          have hB14 := hB14.call hb
          have u14 := Nat.lt_of_lt_of_le u14 hb.size
          refine hK.out _ _ (hS.trans (hb.mono hS.size)) (fun hS => ?_)
          clear hK
          (try simp only [Act.put]); (try simp only [zPa]); (try simp only [zPb, zPc])
          refine tkH (i := 11) (v := .tuple #[.agg #[.int .i64 0, .int .i64 0, .slice A9 0 c9], .bool false]) rfl ?_
          refine tkH (i := 12) (v := .agg #[.int .i64 0, .int .i64 0, .slice A9 0 c9]) rfl ?_
          refine tkH (i := 13) (v := .bool false) rfl ?_
          (try simp only [Act.put]); (try simp only [zPa]); (try simp only [zPb, zPc])
          refine wpAnyH_ready (rs := [15]) (by kernel_rfl) (by simp) ?_
          refine (AllReadyH.cons rfl (fun K hK => ?_) AllReadyH.nil)
          ·rw [if_pos (by kernel_rfl)]
           (try simp only [zGa]); (try simp only [zGb]); (try simp only [zGc])
           refine wp_store_bk 32 (.tmp 9) (.tmp 62) rfl b14 _ #[.int .i64 0, .int .i64 0, .slice none 0 0] #[.int .i64 0, .int .i64 0, .slice A9 0 c9] (by kernel_rfl) rfl (by simp [Value.oneCell']) rfl (by first | with_reducible rfl | (go_simp; done) | rfl) hB14 ?_
           intro W' _ hgr
           skip
           skip
           skip
           refine hK.out _ _ (hS.grown hgr hS.size (fun k hk => by cases hk; exact n14)) (fun hS => ?_)
           clear hK
           (try simp only [Act.put]); (try simp only [zPa]); (try simp only [zPb, zPc])
           refine tkH (i := 16) (v := .bool false) rfl ?_
           go_simp
           refine wpAnyH_done (by kernel_rfl) ?_ _
           go_wp2_with fail
           go_meet
           case rel => exact ⟨rfl, Lib.hid hS⟩
       ·rw [if_pos (by kernel_rfl)]
        (try simp only [zGa]); (try simp only [zGb]); (try simp only [zGc])
        refine wp_alloc_bk 32 #[.int .i64 0, .int .i64 0, .slice none 0 0] (fun _ => by kernel_rfl) rfl 9 rfl ?_
        intro b14 W' hb hB14 l14
        have n14 := Nat.le_trans hS.size l14
        have u14 := hB14.lt
        (try have e140 : g0 < b14 := Nat.lt_of_lt_of_le u0 l14)
        (try have e141 : g1 < b14 := Nat.lt_of_lt_of_le u1 l14)
        have hW := ownI_call hW hb
        have u1 := Nat.lt_of_lt_of_le u1 hb.size
        have hR5 := hR5.call hb
        have u5 := Nat.lt_of_lt_of_le u5 hb.size
        refine hK.out _ _ (hS.trans (hb.mono hS.size)) (fun hS => ?_)
        clear hK
        (try simp only [Act.put]); (try simp only [zPa]); (try simp only [zPb, zPc])
        refine wpAnyH_ready (rs := [4]) (by kernel_rfl) (by simp) ?_
        refine (AllReadyH.cons rfl (fun K hK => ?_) AllReadyH.nil)
        ·rw [if_pos (by kernel_rfl)]
         (try simp only [zGa]); (try simp only [zGb]); (try simp only [zGc])
         refine wp_appendK (.tmp 53) (.tmp 54) rfl g1 M.length c1' (M.length + 1) M (M ++ [1]) (by first | with_reducible rfl | (go_simp; done) | rfl) (own_at hW) (.slice (some ⟨g5, 0, none⟩) 1 1) [1] (by first | with_reducible rfl | (go_simp; done) | rfl) (rd_one hR5) rfl rfl (by omega) (Nat.le_of_lt (hW.lt g1 rfl).2) ?_
         intro g2 c2x W' hX hgr f2
         have n2 : w5.heap.size ≤ g2 := by have := hS.size; omega
         have hB14 := hB14.grown hgr (fun e => by injection e with e; omega)
         have u14 := Nat.lt_of_lt_of_le u14 hgr.size
         refine hK.out _ _ (hS.grown hgr hS.size (fun k hk => by cases hk; exact n1)) (fun hS => ?_)
         clear hK
         (try simp only [Act.put]); (try simp only [zPa]); (try simp only [zPb, zPc])
         refine wpAnyH_ready (rs := [10]) (by kernel_rfl) (by simp) ?_
         refine (AllReadyH.cons rfl (fun K hK => ?_) AllReadyH.nil)
         ·rw [if_pos (by kernel_rfl)]
          (try simp only [zGa]); (try simp only [zGb]); (try simp only [zGc])
          go_simp
          with_reducible refine (HMR.out _ _ (RdI.of_own hX)).mono ?_
          rintro e W' ⟨A9, c9, rfl, _, hb⟩
          dsimp only
          have hB14 := hB14.call hb
          have u14 := Nat.lt_of_lt_of_le u14 hb.size
          have hX := ownI_call hX hb
          refine hK.out _ _ (hS.trans (hb.mono hS.size)) (fun hS => ?_)
          clear hK
          (try simp only [Act.put]); (try simp only [zPa]); (try simp only [zPb, zPc])
          refine tkH (i := 11) (v := .tuple #[.agg #[.int .i64 0, .int .i64 0, .slice A9 0 c9], .bool false]) rfl ?_
          refine tkH (i := 12) (v := .agg #[.int .i64 0, .int .i64 0, .slice A9 0 c9]) rfl ?_
          refine tkH (i := 13) (v := .bool false) rfl ?_
          (try simp only [Act.put]); (try simp only [zPa]); (try simp only [zPb, zPc])
          refine wpAnyH_ready (rs := [15]) (by kernel_rfl) (by simp) ?_
          refine (AllReadyH.cons rfl (fun K hK => ?_) AllReadyH.nil)
          ·rw [if_pos (by kernel_rfl)]
           (try simp only [zGa]); (try simp only [zGb]); (try simp only [zGc])
           refine wp_store_bk 32 (.tmp 9) (.tmp 62) rfl b14 _ #[.int .i64 0, .int .i64 0, .slice none 0 0] #[.int .i64 0, .int .i64 0, .slice A9 0 c9] (by kernel_rfl) rfl (by simp [Value.oneCell']) rfl (by first | with_reducible rfl | (go_simp; done) | rfl) hB14 ?_
           intro W' _ hgr
           skip
           skip
           skip
           refine hK.out _ _ (hS.grown hgr hS.size (fun k hk => by cases hk; exact n14)) (fun hS => ?_)
           clear hK
           (try simp only [Act.put]); (try simp only [zPa]); (try simp only [zPb, zPc])
           refine tkH (i := 16) (v := .bool false) rfl ?_
           go_simp
           refine wpAnyH_done (by kernel_rfl) ?_ _
           go_wp2_with fail
           go_meet
           case rel => exact ⟨rfl, Lib.hid hS⟩
      ·rw [if_pos (by kernel_rfl)]
       (try simp only [zGa]); (try simp only [zGb]); (try simp only [zGc])
       refine wp_alloc_bk 32 #[.int .i64 0, .int .i64 0, .slice none 0 0] (fun _ => by kernel_rfl) rfl 9 rfl ?_
       intro b14 W' hb hB14 l14
       have n14 := Nat.le_trans hS.size l14
       have u14 := hB14.lt
       (try have e140 : g0 < b14 := Nat.lt_of_lt_of_le u0 l14)
       (try have e141 : g1 < b14 := Nat.lt_of_lt_of_le u1 l14)
       have hW := ownI_call hW hb
       have u1 := Nat.lt_of_lt_of_le u1 hb.size
       refine hK.out _ _ (hS.trans (hb.mono hS.size)) (fun hS => ?_)
       clear hK
       (try simp only [Act.put]); (try simp only [zPa]); (try simp only [zPb, zPc])
       refine wpAnyH_ready (rs := [3]) (by kernel_rfl) (by simp) ?_
       refine (AllReadyH.cons rfl (fun K hK => ?_) AllReadyH.nil)
       ·rw [if_pos (by kernel_rfl)]
        (try simp only [zGa]); (try simp only [zGb]); (try simp only [zGc])
        refine wp_build1K 54 rfl rfl ?_
        intro g5 W' hb hR5 l5 u5
        (try have e50 : g0 < g5 := Nat.lt_of_lt_of_le u0 l5)
        have hW := ownI_call hW hb
        have u1 := Nat.lt_of_lt_of_le u1 hb.size
        have hB14 := hB14.call hb
        have u14 := Nat.lt_of_lt_of_le u14 hb.size
        refine hK.out _ _ (hS.trans (hb.mono hS.size)) (fun hS => ?_)
        clear hK
        (try simp only [Act.put]); (try simp only [zPa]); (try simp only [zPb, zPc])
        refine wpAnyH_ready (rs := [4]) (by kernel_rfl) (by simp) ?_
        refine (AllReadyH.cons rfl (fun K hK => ?_) AllReadyH.nil)
        ·rw [if_pos (by kernel_rfl)]
         (try simp only [zGa]); (try simp only [zGb]); (try simp only [zGc])
         refine wp_appendK (.tmp 53) (.tmp 54) rfl g1 M.length c1' (M.length + 1) M (M ++ [1]) (by first | with_reducible rfl | (go_simp; done) | rfl) (own_at hW) (.slice (some ⟨g5, 0, none⟩) 1 1) [1] (by first | with_reducible rfl | (go_simp; done) | rfl) (rd_one hR5) rfl rfl (by omega) (Nat.le_of_lt (hW.lt g1 rfl).2) ?_
         intro g2 c2x W' hX hgr f2
         have n2 : w5.heap.size ≤ g2 := by have := hS.size; omega
         have hB14 := hB14.grown hgr (fun e => by injection e with e; omega)
         have u14 := Nat.lt_of_lt_of_le u14 hgr.size
         refine hK.out _ _ (hS.grown hgr hS.size (fun k hk => by cases hk; exact n1)) (fun hS => ?_)
         clear hK
         (try simp only [Act.put]); (try simp only [zPa]); (try simp only [zPb, zPc])
         refine wpAnyH_ready (rs := [10]) (by kernel_rfl) (by simp) ?_
         refine (AllReadyH.cons rfl (fun K hK => ?_) AllReadyH.nil)
         ·rw [if_pos (by kernel_rfl)]
          (try simp only [zGa]); (try simp only [zGb]); (try simp only [zGc])
          go_simp
          with_reducible refine (HMR.out _ _ (RdI.of_own hX)).mono ?_
          rintro e W' ⟨A9, c9, rfl, _, hb⟩
          dsimp only
          have hB14 := hB14.call hb
          have u14 := Nat.lt_of_lt_of_le u14 hb.size
          have hX := ownI_call hX hb
          refine hK.out _ _ (hS.trans (hb.mono hS.size)) (fun hS => ?_)
          clear hK
          (try simp only [Act.put]); (try simp only [zPa]); (try simp only [zPb, zPc])
          refine tkH (i := 11) (v := .tuple #[.agg #[.int .i64 0, .int .i64 0, .slice A9 0 c9], .bool false]) rfl ?_
          refine tkH (i := 12) (v := .agg #[.int .i64 0, .int .i64 0, .slice A9 0 c9]) rfl ?_
          refine tkH (i := 13) (v := .bool false) rfl ?_
          (try simp only [Act.put]); (try simp only [zPa]); (try simp only [zPb, zPc])
          refine wpAnyH_ready (rs := [15]) (by kernel_rfl) (by simp) ?_
          refine (AllReadyH.cons rfl (fun K hK => ?_) AllReadyH.nil)
          ·rw [if_pos (by kernel_rfl)]
           (try simp only [zGa]); (try simp only [zGb]); (try simp only [zGc])
           refine wp_store_bk 32 (.tmp 9) (.tmp 62) rfl b14 _ #[.int .i64 0, .int .i64 0, .slice none 0 0] #[.int .i64 0, .int .i64 0, .slice A9 0 c9] (by kernel_rfl) rfl (by simp [Value.oneCell']) rfl (by first | with_reducible rfl | (go_simp; done) | rfl) hB14 ?_
           intro W' _ hgr
           skip
           skip
           skip
           refine hK.out _ _ (hS.grown hgr hS.size (fun k hk => by cases hk; exact n14)) (fun hS => ?_)
           clear hK
           (try simp only [Act.put]); (try simp only [zPa]); (try simp only [zPb, zPc])
           refine tkH (i := 16) (v := .bool false) rfl ?_
           go_simp
           refine wpAnyH_done (by kernel_rfl) ?_ _
           go_wp2_with fail
           go_meet
           case rel => exact ⟨rfl, Lib.hid hS⟩
     ·rw [if_pos (by kernel_rfl)]
      (try simp only [zGa]); (try simp only [zGb]); (try simp only [zGc])
      refine wp_build1K 54 rfl rfl ?_
      intro g5 W' hb hR5 l5 u5
      (try have e50 : g0 < g5 := Nat.lt_of_lt_of_le u0 l5)
      have hE := ownI_call hE hb
      have u0 := Nat.lt_of_lt_of_le u0 hb.size
      refine hK.out _ _ (hS.trans (hb.mono hS.size)) (fun hS => ?_)
      clear hK
      (try simp only [Act.put]); (try simp only [zPa]); (try simp only [zPb, zPc])
      refine wpAnyH_ready (rs := [2, 14]) (by kernel_rfl) (by simp) ?_
      refine (AllReadyH.cons rfl (fun K hK => ?_) (AllReadyH.cons rfl (fun K hK => ?_) AllReadyH.nil))
      ·rw [if_pos (by kernel_rfl)]
       (try simp only [zGa]); (try simp only [zGb]); (try simp only [zGc])
       refine wp_appendK (.tmp 51) (.tmp 52) rfl g0 0 0 M.length [] M (by first | with_reducible rfl | (go_simp; done) | rfl) hE (.slice A2 M.length c2') M (by first | with_reducible rfl | (go_simp; done) | rfl) (hr5.call hS) (by omega) rfl (by omega) (Nat.le_of_lt u0) ?_
       intro g1 c1' W' hW hgr f1
       have n1 : w5.heap.size ≤ g1 := by have := hS.size; omega
       have u1 := (hW.lt g1 rfl).2
       (try have e114 : b14 ≠ g1 := by omega)
       have hR5 := hR5.grown hgr (fun e => by injection e with e; omega)
       have u5 := Nat.lt_of_lt_of_le u5 hgr.size
       refine hK.out _ _ (hS.grown hgr hS.size (fun k hk => by cases hk; exact n0)) (fun hS => ?_)
       clear hK
       (try simp only [Act.put]); (try simp only [zPa]); (try simp only [zPb, zPc])
       refine wpAnyH_ready (rs := [4, 14]) (by kernel_rfl) (by simp) ?_
       refine (AllReadyH.cons rfl (fun K hK => ?_) (AllReadyH.cons rfl (fun K hK => ?_) AllReadyH.nil))
       ·rw [if_pos (by kernel_rfl)]
        (try simp only [zGa]); (try simp only [zGb]); (try simp only [zGc])
        refine wp_appendK (.tmp 53) (.tmp 54) rfl g1 M.length c1' (M.length + 1) M (M ++ [1]) (by first | with_reducible rfl | (go_simp; done) | rfl) (own_at hW) (.slice (some ⟨g5, 0, none⟩) 1 1) [1] (by first | with_reducible rfl | (go_simp; done) | rfl) (rd_one hR5) rfl rfl (by omega) (Nat.le_of_lt (hW.lt g1 rfl).2) ?_
        intro g2 c2x W' hX hgr f2
        have n2 : w5.heap.size ≤ g2 := by have := hS.size; omega
        refine hK.out _ _ (hS.grown hgr hS.size (fun k hk => by cases hk; exact n1)) (fun hS => ?_)
        clear hK
        (try simp only [Act.put]); (try simp only [zPa]); (try simp only [zPb, zPc])
        refine wpAnyH_ready (rs := [10, 14]) (by kernel_rfl) (by simp) ?_
        refine (AllReadyH.cons rfl (fun K hK => ?_) (AllReadyH.cons rfl (fun K hK => ?_) AllReadyH.nil))
        ·rw [if_pos (by kernel_rfl)]
         (try simp only [zGa]); (try simp only [zGb]); (try simp only [zGc])
         go_simp
         with_reducible refine (HMR.out _ _ (RdI.of_own hX)).mono ?_
         rintro e W' ⟨A9, c9, rfl, _, hb⟩
         dsimp only
         have hX := ownI_call hX hb
         refine hK.out _ _ (hS.trans (hb.mono hS.size)) (fun hS => ?_)
         clear hK
         (try simp only [Act.put]); (try simp only [zPa]); (try simp only [zPb, zPc])
         refine tkH (i := 11) (v := .tuple #[.agg #[.int .i64 0, .int .i64 0, .slice A9 0 c9], .bool false]) rfl ?_
         refine tkH (i := 12) (v := .agg #[.int .i64 0, .int .i64 0, .slice A9 0 c9]) rfl ?_
         refine tkH (i := 13) (v := .bool false) rfl ?_
         (try simp only [Act.put]); (try simp only [zPa]); (try simp only [zPb, zPc])
         refine wpAnyH_ready (rs := [14]) (by kernel_rfl) (by simp) ?_
         refine (AllReadyH.cons rfl (fun K hK => ?_) AllReadyH.nil)
         ·rw [if_pos (by kernel_rfl)]
          (try simp only [zGa]); (try simp only [zGb]); (try simp only [zGc])
          refine wp_alloc_bk 32 #[.int .i64 0, .int .i64 0, .slice none 0 0] (fun _ => by kernel_rfl) rfl 9 rfl ?_
          intro b14 W' hb hB14 l14
          have n14 := Nat.le_trans hS.size l14
          have u14 := hB14.lt
          (try have e140 : g0 < b14 := Nat.lt_of_lt_of_le u0 l14)
          (try have e141 : g1 < b14 := Nat.lt_of_lt_of_le u1 l14)
          have hX := ownI_call hX hb
          refine hK.out _ _ (hS.trans (hb.mono hS.size)) (fun hS => ?_)
          clear hK
          (try simp only [Act.put]); (try simp only [zPa]); (try simp only [zPb, zPc])
          refine wpAnyH_ready (rs := [15]) (by kernel_rfl) (by simp) ?_
          refine (AllReadyH.cons rfl (fun K hK => ?_) AllReadyH.nil)
          ·rw [if_pos (by kernel_rfl)]
           (try simp only [zGa]); (try simp only [zGb]); (try simp only [zGc])
           refine wp_store_bk 32 (.tmp 9) (.tmp 62) rfl b14 _ #[.int .i64 0, .int .i64 0, .slice none 0 0] #[.int .i64 0, .int .i64 0, .slice A9 0 c9] (by kernel_rfl) rfl (by simp [Value.oneCell']) rfl (by first | with_reducible rfl | (go_simp; done) | rfl) hB14 ?_
           intro W' _ hgr
           skip
           skip
           skip
           refine hK.out _ _ (hS.grown hgr hS.size (fun k hk => by cases hk; exact n14)) (fun hS => ?_)
           clear hK
           (try simp only [Act.put]); (try simp only [zPa]); (try simp only [zPb, zPc])
           refine tkH (i := 16) (v := .bool false) rfl ?_
           go_simp
           refine wpAnyH_done (by kernel_rfl) ?_ _
           go_wp2_with fail
           go_meet
           case rel => exact ⟨rfl, Lib.hid hS⟩
        ·rw [if_pos (by kernel_rfl)]
         (try simp only [zGa]); (try simp only [zGb]); (try simp only [zGc])
         refine wp_alloc_bk 32 #[.int .i64 0, .int .i64 0, .slice none 0 0] (fun _ => by kernel_rfl) rfl 9 rfl ?_
         intro b14 W' hb hB14 l14
         have n14 := Nat.le_trans hS.size l14
         have u14 := hB14.lt
         (try have e140 : g0 < b14 := Nat.lt_of_lt_of_le u0 l14)
         (try have e141 : g1 < b14 := Nat.lt_of_lt_of_le u1 l14)
         have hX := ownI_call hX hb
         refine hK.out _ _ (hS.trans (hb.mono hS.size)) (fun hS => ?_)
         clear hK
         (try simp only [Act.put]); (try simp only [zPa]); (try simp only [zPb, zPc])
         refine wpAnyH_ready (rs := [10]) (by kernel_rfl) (by simp) ?_
         refine (AllReadyH.cons rfl (fun K hK => ?_) AllReadyH.nil)
         ·rw [if_pos (by kernel_rfl)]
          (try simp only [zGa]); (try simp only [zGb]); (try simp only [zGc])
          go_simp
          with_reducible refine (HMR.out _ _ (RdI.of_own hX)).mono ?_
          rintro e W' ⟨A9, c9, rfl, _, hb⟩
          dsimp only
          have hX := ownI_call hX hb
          have hB14 := hB14.call hb
          have u14 := Nat.lt_of_lt_of_le u14 hb.size
          refine hK.out _ _ (hS.trans (hb.mono hS.size)) (fun hS => ?_)
          clear hK
          (try simp only [Act.put]); (try simp only [zPa]); (try simp only [zPb, zPc])
          refine tkH (i := 11) (v := .tuple #[.agg #[.int .i64 0, .int .i64 0, .slice A9 0 c9], .bool false]) rfl ?_
          refine tkH (i := 12) (v := .agg #[.int .i64 0, .int .i64 0, .slice A9 0 c9]) rfl ?_
          refine tkH (i := 13) (v := .bool false) rfl ?_
          (try simp only [Act.put]); (try simp only [zPa]); (try simp only [zPb, zPc])
          refine wpAnyH_ready (rs := [15]) (by kernel_rfl) (by simp) ?_
          refine (AllReadyH.cons rfl (fun K hK => ?_) AllReadyH.nil)
          ·rw [if_pos (by kernel_rfl)]
           (try simp only [zGa]); (try simp only [zGb]); (try simp only [zGc])
           refine wp_store_bk 32 (.tmp 9) (.tmp 62) rfl b14 _ #[.int .i64 0, .int .i64 0, .slice none 0 0] #[.int .i64 0, .int .i64 0, .slice A9 0 c9] (by kernel_rfl) rfl (by simp [Value.oneCell']) rfl (by first | with_reducible rfl | (go_simp; done) | rfl) hB14 ?_
           intro W' _ hgr
           skip
           skip
           skip
           refine hK.out _ _ (hS.grown hgr hS.size (fun k hk => by cases hk; exact n14)) (fun hS => ?_)
           clear hK
           (try simp only [Act.put]); (try simp only [zPa]); (try simp only [zPb, zPc])
           refine tkH (i := 16) (v := .bool false) rfl ?_
           go_simp
           refine wpAnyH_done (by kernel_rfl) ?_ _
           go_wp2_with fail
           go_meet
           case rel => exact ⟨rfl, Lib.hid hS⟩
       ·rw [if_pos (by kernel_rfl)]
        (try simp only [zGa]); (try simp only [zGb]); (try simp only [zGc])
        refine wp_alloc_bk 32 #[.int .i64 0, .int .i64 0, .slice none 0 0] (fun _ => by kernel_rfl) rfl 9 rfl ?_
        intro b14 W' hb hB14 l14
        have n14 := Nat.le_trans hS.size l14
        have u14 := hB14.lt
        (try have e140 : g0 < b14 := Nat.lt_of_lt_of_le u0 l14)
        (try have e141 : g1 < b14 := Nat.lt_of_lt_of_le u1 l14)
        have hR5 := hR5.call hb
        have u5 := Nat.lt_of_lt_of_le u5 hb.size
        have hW := ownI_call hW hb
        have u1 := Nat.lt_of_lt_of_le u1 hb.size
        refine hK.out _ _ (hS.trans (hb.mono hS.size)) (fun hS => ?_)
        clear hK
        (try simp only [Act.put]); (try simp only [zPa]); (try simp only [zPb, zPc])
        refine wpAnyH_ready (rs := [4]) (by kernel_rfl) (by simp) ?_
        refine (AllReadyH.cons rfl (fun K hK => ?_) AllReadyH.nil)
        ·rw [if_pos (by kernel_rfl)]
         (try simp only [zGa]); (try simp only [zGb]); (try simp only [zGc])
         refine wp_appendK (.tmp 53) (.tmp 54) rfl g1 M.length c1' (M.length + 1) M (M ++ [1]) (by first | with_reducible rfl | (go_simp; done) | rfl) (own_at hW) (.slice (some ⟨g5, 0, none⟩) 1 1) [1] (by first | with_reducible rfl | (go_simp; done) | rfl) (rd_one hR5) rfl rfl (by omega) (Nat.le_of_lt (hW.lt g1 rfl).2) ?_
         intro g2 c2x W' hX hgr f2
         have n2 : w5.heap.size ≤ g2 := by have := hS.size; omega
         have hB14 := hB14.grown hgr (fun e => by injection e with e; omega)
         have u14 := Nat.lt_of_lt_of_le u14 hgr.size
         refine hK.out _ _ (hS.grown hgr hS.size (fun k hk => by cases hk; exact n1)) (fun hS => ?_)
         clear hK
         (try simp only [Act.put]); (try simp only [zPa]); (try simp only [zPb, zPc])
         refine wpAnyH_ready (rs := [10]) (by kernel_rfl) (by simp) ?_
         refine (AllReadyH.cons rfl (fun K hK => ?_) AllReadyH.nil)
         ·rw [if_pos (by kernel_rfl)]
          (try simp only [zGa]); (try simp only [zGb]); (try simp only [zGc])
          go_simp
          with_reducible refine (HMR.out _ _ (RdI.of_own hX)).mono ?_
          rintro e W' ⟨A9, c9, rfl, _, hb⟩
          dsimp only
          have hB14 := hB14.call hb
          have u14 := Nat.lt_of_lt_of_le u14 hb.size
          have hX := ownI_call hX hb
          refine hK.out _ _ (hS.trans (hb.mono hS.size)) (fun hS => ?_)
          clear hK
          (try simp only [Act.put]); (try simp only [zPa]); (try simp only [zPb, zPc])
          refine tkH (i := 11) (v := .tuple #[.agg #[.int .i64 0, .int .i64 0, .slice A9 0 c9], .bool false]) rfl ?_
          refine tkH (i := 12) (v := .agg #[.int .i64 0, .int .i64 0, .slice A9 0 c9]) rfl ?_
          refine tkH (i := 13) (v := .bool false) rfl ?_
          (try simp only [Act.put]); (try simp only [zPa]); (try simp only [zPb, zPc])
          refine wpAnyH_ready (rs := [15]) (by kernel_rfl) (by simp) ?_
          refine (AllReadyH.cons rfl (fun K hK => ?_) AllReadyH.nil)
          ·rw [if_pos (by kernel_rfl)]
           (try simp only [zGa]); (try simp only [zGb]); (try simp only [zGc])
           refine wp_store_bk 32 (.tmp 9) (.tmp 62) rfl b14 _ #[.int .i64 0, .int .i64 0, .slice none 0 0] #[.int .i64 0, .int .i64 0, .slice A9 0 c9] (by kernel_rfl) rfl (by simp [Value.oneCell']) rfl (by first | with_reducible rfl | (go_simp; done) | rfl) hB14 ?_
           intro W' _ hgr
           skip
           skip
           skip
           refine hK.out _ _ (hS.grown hgr hS.size (fun k hk => by cases hk; exact n14)) (fun hS => ?_)
           clear hK
           (try simp only [Act.put]); (try simp only [zPa]); (try simp only [zPb, zPc])
           refine tkH (i := 16) (v := .bool false) rfl ?_
           go_simp
           refine wpAnyH_done (by kernel_rfl) ?_ _
           go_wp2_with fail
           go_meet
           case rel => exact ⟨rfl, Lib.hid hS⟩
      ·rw [if_pos (by kernel_rfl)]
       (try simp only [zGa]); (try simp only [zGb]); (try simp only [zGc])
       refine wp_alloc_bk 32 #[.int .i64 0, .int .i64 0, .slice none 0 0] (fun _ => by kernel_rfl) rfl 9 rfl ?_
       intro b14 W' hb hB14 l14
       have n14 := Nat.le_trans hS.size l14
       have u14 := hB14.lt
       (try have e140 : g0 < b14 := Nat.lt_of_lt_of_le u0 l14)
       (try have e141 : g1 < b14 := Nat.lt_of_lt_of_le u1 l14)
       have hE := ownI_call hE hb
       have u0 := Nat.lt_of_lt_of_le u0 hb.size
       have hR5 := hR5.call hb
       have u5 := Nat.lt_of_lt_of_le u5 hb.size
       refine hK.out _ _ (hS.trans (hb.mono hS.size)) (fun hS => ?_)
       clear hK
       (try simp only [Act.put]); (try simp only [zPa]); (try simp only [zPb, zPc])
       refine wpAnyH_ready (rs := [2]) (by kernel_rfl) (by simp) ?_
       refine (AllReadyH.cons rfl (fun K hK => ?_) AllReadyH.nil)
       ·rw [if_pos (by kernel_rfl)]
        (try simp only [zGa]); (try simp only [zGb]); (try simp only [zGc])
        refine wp_appendK (.tmp 51) (.tmp 52) rfl g0 0 0 M.length [] M (by first | with_reducible rfl | (go_simp; done) | rfl) hE (.slice A2 M.length c2') M (by first | with_reducible rfl | (go_simp; done) | rfl) (hr5.call hS) (by omega) rfl (by omega) (Nat.le_of_lt u0) ?_
        intro g1 c1' W' hW hgr f1
        have n1 : w5.heap.size ≤ g1 := by have := hS.size; omega
        have u1 := (hW.lt g1 rfl).2
        (try have e114 : b14 ≠ g1 := by omega)
        have hR5 := hR5.grown hgr (fun e => by injection e with e; omega)
        have u5 := Nat.lt_of_lt_of_le u5 hgr.size
        have hB14 := hB14.grown hgr (fun e => by injection e with e; omega)
        have u14 := Nat.lt_of_lt_of_le u14 hgr.size
        refine hK.out _ _ (hS.grown hgr hS.size (fun k hk => by cases hk; exact n0)) (fun hS => ?_)
        clear hK
        (try simp only [Act.put]); (try simp only [zPa]); (try simp only [zPb, zPc])
        refine wpAnyH_ready (rs := [4]) (by kernel_rfl) (by simp) ?_
        refine (AllReadyH.cons rfl (fun K hK => ?_) AllReadyH.nil)
        ·rw [if_pos (by kernel_rfl)]
         (try simp only [zGa]); (try simp only [zGb]); (try simp only [zGc])
         refine wp_appendK (.tmp 53) (.tmp 54) rfl g1 M.length c1' (M.length + 1) M (M ++ [1]) (by first | with_reducible rfl | (go_simp; done) | rfl) (own_at hW) (.slice (some ⟨g5, 0, none⟩) 1 1) [1] (by first | with_reducible rfl | (go_simp; done) | rfl) (rd_one hR5) rfl rfl (by omega) (Nat.le_of_lt (hW.lt g1 rfl).2) ?_
         intro g2 c2x W' hX hgr f2
         have n2 : w5.heap.size ≤ g2 := by have := hS.size; omega
         have hB14 := hB14.grown hgr (fun e => by injection e with e; omega)
         have u14 := Nat.lt_of_lt_of_le u14 hgr.size
         refine hK.out _ _ (hS.grown hgr hS.size (fun k hk => by cases hk; exact n1)) (fun hS => ?_)
         clear hK
         (try simp only [Act.put]); (try simp only [zPa]); (try simp only [zPb, zPc])
         refine wpAnyH_ready (rs := [10]) (by kernel_rfl) (by simp) ?_
         refine (AllReadyH.cons rfl (fun K hK => ?_) AllReadyH.nil)
         ·rw [if_pos (by kernel_rfl)]
          (try simp only [zGa]); (try simp only [zGb]); (try simp only [zGc])
          go_simp
          with_reducible refine (HMR.out _ _ (RdI.of_own hX)).mono ?_
          rintro e W' ⟨A9, c9, rfl, _, hb⟩
          dsimp only
          have hB14 := hB14.call hb
          have u14 := Nat.lt_of_lt_of_le u14 hb.size
          have hX := ownI_call hX hb
          refine hK.out _ _ (hS.trans (hb.mono hS.size)) (fun hS => ?_)
          clear hK
          (try simp only [Act.put]); (try simp only [zPa]); (try simp only [zPb, zPc])
          refine tkH (i := 11) (v := .tuple #[.agg #[.int .i64 0, .int .i64 0, .slice A9 0 c9], .bool false]) rfl ?_
          refine tkH (i := 12) (v := .agg #[.int .i64 0, .int .i64 0, .slice A9 0 c9]) rfl ?_
          refine tkH (i := 13) (v := .bool false) rfl ?_
          (try simp only [Act.put]); (try simp only [zPa]); (try simp only [zPb, zPc])
          refine wpAnyH_ready (rs := [15]) (by kernel_rfl) (by simp) ?_
          refine (AllReadyH.cons rfl (fun K hK => ?_) AllReadyH.nil)
          ·rw [if_pos (by kernel_rfl)]
           (try simp only [zGa]); (try simp only [zGb]); (try simp only [zGc])
           refine wp_store_bk 32 (.tmp 9) (.tmp 62) rfl b14 _ #[.int .i64 0, .int .i64 0, .slice none 0 0] #[.int .i64 0, .int .i64 0, .slice A9 0 c9] (by kernel_rfl) rfl (by simp [Value.oneCell']) rfl (by first | with_reducible rfl | (go_simp; done) | rfl) hB14 ?_
           intro W' _ hgr
           skip
           skip
           skip
           refine hK.out _ _ (hS.grown hgr hS.size (fun k hk => by cases hk; exact n14)) (fun hS => ?_)
           clear hK
           (try simp only [Act.put]); (try simp only [zPa]); (try simp only [zPb, zPc])
           refine tkH (i := 16) (v := .bool false) rfl ?_
           go_simp
           refine wpAnyH_done (by kernel_rfl) ?_ _
           go_wp2_with fail
           go_meet
           case rel => exact ⟨rfl, Lib.hid hS⟩
     ·rw [if_pos (by kernel_rfl)]
      (try simp only [zGa]); (try simp only [zGb]); (try simp only [zGc])
      refine wp_alloc_bk 32 #[.int .i64 0, .int .i64 0, .slice none 0 0] (fun _ => by kernel_rfl) rfl 9 rfl ?_
      intro b14 W' hb hB14 l14
      have n14 := Nat.le_trans hS.size l14
      have u14 := hB14.lt
      (try have e140 : g0 < b14 := Nat.lt_of_lt_of_le u0 l14)
      (try have e141 : g1 < b14 := Nat.lt_of_lt_of_le u1 l14)
      have hE := ownI_call hE hb
      have u0 := Nat.lt_of_lt_of_le u0 hb.size
      refine hK.out _ _ (hS.trans (hb.mono hS.size)) (fun hS => ?_)
      clear hK
      (try simp only [Act.put]); (try simp only [zPa]); (try simp only [zPb, zPc])
      refine wpAnyH_ready (rs := [2, 3]) (by kernel_rfl) (by simp) ?_
      refine (AllReadyH.cons rfl (fun K hK => ?_) (AllReadyH.cons rfl (fun K hK => ?_) AllReadyH.nil))
      ·rw [if_pos (by kernel_rfl)]
       (try simp only [zGa]); (try simp only [zGb]); (try simp only [zGc])
       refine wp_appendK (.tmp 51) (.tmp 52) rfl g0 0 0 M.length [] M (by first | with_reducible rfl | (go_simp; done) | rfl) hE (.slice A2 M.length c2') M (by first | with_reducible rfl | (go_simp; done) | rfl) (hr5.call hS) (by omega) rfl (by omega) (Nat.le_of_lt u0) ?_
       intro g1 c1' W' hW hgr f1
       have n1 : w5.heap.size ≤ g1 := by have := hS.size; omega
       have u1 := (hW.lt g1 rfl).2
       (try have e114 : b14 ≠ g1 := by omega)
       have hB14 := hB14.grown hgr (fun e => by injection e with e; omega)
       have u14 := Nat.lt_of_lt_of_le u14 hgr.size
       refine hK.out _ _ (hS.grown hgr hS.size (fun k hk => by cases hk; exact n0)) (fun hS => ?_)
       clear hK
       (try simp only [Act.put]); (try simp only [zPa]); (try simp only [zPb, zPc])
       refine wpAnyH_ready (rs := [3]) (by kernel_rfl) (by simp) ?_
       refine (AllReadyH.cons rfl (fun K hK => ?_) AllReadyH.nil)
       ·rw [if_pos (by kernel_rfl)]
        (try simp only [zGa]); (try simp only [zGb]); (try simp only [zGc])
        refine wp_build1K 54 rfl rfl ?_
        intro g5 W' hb hR5 l5 u5
        (try have e50 : g0 < g5 := Nat.lt_of_lt_of_le u0 l5)
        have hB14 := hB14.call hb
        have u14 := Nat.lt_of_lt_of_le u14 hb.size
        have hW := ownI_call hW hb
        have u1 := Nat.lt_of_lt_of_le u1 hb.size
        refine hK.out _ _ (hS.trans (hb.mono hS.size)) (fun hS => ?_)
        clear hK
        (try simp only [Act.put]); (try simp only [zPa]); (try simp only [zPb, zPc])
        refine wpAnyH_ready (rs := [4]) (by kernel_rfl) (by simp) ?_
        refine (AllReadyH.cons rfl (fun K hK => ?_) AllReadyH.nil)
        ·rw [if_pos (by kernel_rfl)]
         (try simp only [zGa]); (try simp only [zGb]); (try simp only [zGc])
         refine wp_appendK (.tmp 53) (.tmp 54) rfl g1 M.length c1' (M.length + 1) M (M ++ [1]) (by first | with_reducible rfl | (go_simp; done) | rfl) (own_at hW) (.slice (some ⟨g5, 0, none⟩) 1 1) [1] (by first | with_reducible rfl | (go_simp; done) | rfl) (rd_one hR5) rfl rfl (by omega) (Nat.le_of_lt (hW.lt g1 rfl).2) ?_
         intro g2 c2x W' hX hgr f2
         have n2 : w5.heap.size ≤ g2 := by have := hS.size; omega
         have hB14 := hB14.grown hgr (fun e => by injection e with e; omega)
         have u14 := Nat.lt_of_lt_of_le u14 hgr.size
         refine hK.out _ _ (hS.grown hgr hS.size (fun k hk => by cases hk; exact n1)) (fun hS => ?_)
         clear hK
         (try simp only [Act.put]); (try simp only [zPa]); (try simp only [zPb, zPc])
         refine wpAnyH_ready (rs := [10]) (by kernel_rfl) (by simp) ?_
         refine (AllReadyH.cons rfl (fun K hK => ?_) AllReadyH.nil)
         ·rw [if_pos (by kernel_rfl)]
          (try simp only [zGa]); (try simp only [zGb]); (try simp only [zGc])
          go_simp
          with_reducible refine (HMR.out _ _ (RdI.of_own hX)).mono ?_
          rintro e W' ⟨A9, c9, rfl, _, hb⟩
          dsimp only
          have hB14 := hB14.call hb
          have u14 := Nat.lt_of_lt_of_le u14 hb.size
          have hX := ownI_call hX hb
          refine hK.out _ _ (hS.trans (hb.mono hS.size)) (fun hS => ?_)
          clear hK
          (try simp only [Act.put]); (try simp only [zPa]); (try simp only [zPb, zPc])
          refine tkH (i := 11) (v := .tuple #[.agg #[.int .i64 0, .int .i64 0, .slice A9 0 c9], .bool false]) rfl ?_
          refine tkH (i := 12) (v := .agg #[.int .i64 0, .int .i64 0, .slice A9 0 c9]) rfl ?_
          refine tkH (i := 13) (v := .bool false) rfl ?_
          (try simp only [Act.put]); (try simp only [zPa]); (try simp only [zPb, zPc])
          refine wpAnyH_ready (rs := [15]) (by kernel_rfl) (by simp) ?_
          refine (AllReadyH.cons rfl (fun K hK => ?_) AllReadyH.nil)
          ·rw [if_pos (by kernel_rfl)]
           (try simp only [zGa]); (try simp only [zGb]); (try simp only [zGc])
           refine wp_store_bk 32 (.tmp 9) (.tmp 62) rfl b14 _ #[.int .i64 0, .int .i64 0, .slice none 0 0] #[.int .i64 0, .int .i64 0, .slice A9 0 c9] (by kernel_rfl) rfl (by simp [Value.oneCell']) rfl (by first | with_reducible rfl | (go_simp; done) | rfl) hB14 ?_
           intro W' _ hgr
           skip
           skip
           skip
           refine hK.out _ _ (hS.grown hgr hS.size (fun k hk => by cases hk; exact n14)) (fun hS => ?_)
           clear hK
           (try simp only [Act.put]); (try simp only [zPa]); (try simp only [zPb, zPc])
           refine tkH (i := 16) (v := .bool false) rfl ?_
           go_simp
           refine wpAnyH_done (by kernel_rfl) ?_ _
           go_wp2_with fail
           go_meet
           case rel => exact ⟨rfl, Lib.hid hS⟩
      ·rw [if_pos (by kernel_rfl)]
       (try simp only [zGa]); (try simp only [zGb]); (try simp only [zGc])
       refine wp_build1K 54 rfl rfl ?_
       intro g5 W' hb hR5 l5 u5
       (try have e50 : g0 < g5 := Nat.lt_of_lt_of_le u0 l5)
       have hE := ownI_call hE hb
       have u0 := Nat.lt_of_lt_of_le u0 hb.size
       have hB14 := hB14.call hb
       have u14 := Nat.lt_of_lt_of_le u14 hb.size
       refine hK.out _ _ (hS.trans (hb.mono hS.size)) (fun hS => ?_)
       clear hK
       (try simp only [Act.put]); (try simp only [zPa]); (try simp only [zPb, zPc])
       refine wpAnyH_ready (rs := [2]) (by kernel_rfl) (by simp) ?_
       refine (AllReadyH.cons rfl (fun K hK => ?_) AllReadyH.nil)
       ·rw [if_pos (by kernel_rfl)]
        (try simp only [zGa]); (try simp only [zGb]); (try simp only [zGc])
        refine wp_appendK (.tmp 51) (.tmp 52) rfl g0 0 0 M.length [] M (by first | with_reducible rfl | (go_simp; done) | rfl) hE (.slice A2 M.length c2') M (by first | with_reducible rfl | (go_simp; done) | rfl) (hr5.call hS) (by omega) rfl (by omega) (Nat.le_of_lt u0) ?_
        intro g1 c1' W' hW hgr f1
        have n1 : w5.heap.size ≤ g1 := by have := hS.size; omega
        have u1 := (hW.lt g1 rfl).2
        (try have e114 : b14 ≠ g1 := by omega)
        have hB14 := hB14.grown hgr (fun e => by injection e with e; omega)
        have u14 := Nat.lt_of_lt_of_le u14 hgr.size
        have hR5 := hR5.grown hgr (fun e => by injection e with e; omega)
        have u5 := Nat.lt_of_lt_of_le u5 hgr.size
        refine hK.out _ _ (hS.grown hgr hS.size (fun k hk => by cases hk; exact n0)) (fun hS => ?_)
        clear hK
        (try simp only [Act.put]); (try simp only [zPa]); (try simp only [zPb, zPc])
        refine wpAnyH_ready (rs := [4]) (by kernel_rfl) (by simp) ?_
        refine (AllReadyH.cons rfl (fun K hK => ?_) AllReadyH.nil)
        ·rw [if_pos (by kernel_rfl)]
         (try simp only [zGa]); (try simp only [zGb]); (try simp only [zGc])
         refine wp_appendK (.tmp 53) (.tmp 54) rfl g1 M.length c1' (M.length + 1) M (M ++ [1]) (by first | with_reducible rfl | (go_simp; done) | rfl) (own_at hW) (.slice (some ⟨g5, 0, none⟩) 1 1) [1] (by first | with_reducible rfl | (go_simp; done) | rfl) (rd_one hR5) rfl rfl (by omega) (Nat.le_of_lt (hW.lt g1 rfl).2) ?_
         intro g2 c2x W' hX hgr f2
         have n2 : w5.heap.size ≤ g2 := by have := hS.size; omega
         have hB14 := hB14.grown hgr (fun e => by injection e with e; omega)
         have u14 := Nat.lt_of_lt_of_le u14 hgr.size
         refine hK.out _ _ (hS.grown hgr hS.size (fun k hk => by cases hk; exact n1)) (fun hS => ?_)
         clear hK
         (try simp only [Act.put]); (try simp only [zPa]); (try simp only [zPb, zPc])
         refine wpAnyH_ready (rs := [10]) (by kernel_rfl) (by simp) ?_
         refine (AllReadyH.cons rfl (fun K hK => ?_) AllReadyH.nil)
         ·rw [if_pos (by kernel_rfl)]
          (try simp only [zGa]); (try simp only [zGb]); (try simp only [zGc])
          go_simp
          with_reducible refine (HMR.out _ _ (RdI.of_own hX)).mono ?_
          rintro e W' ⟨A9, c9, rfl, _, hb⟩
          dsimp only
          have hB14 := hB14.call hb
          have u14 := Nat.lt_of_lt_of_le u14 hb.size
          have hX := ownI_call hX hb
          refine hK.out _ _ (hS.trans (hb.mono hS.size)) (fun hS => ?_)
          clear hK
          (try simp only [Act.put]); (try simp only [zPa]); (try simp only [zPb, zPc])
          refine tkH (i := 11) (v := .tuple #[.agg #[.int .i64 0, .int .i64 0, .slice A9 0 c9], .bool false]) rfl ?_
          refine tkH (i := 12) (v := .agg #[.int .i64 0, .int .i64 0, .slice A9 0 c9]) rfl ?_
          refine tkH (i := 13) (v := .bool false) rfl ?_
          (try simp only [Act.put]); (try simp only [zPa]); (try simp only [zPb, zPc])
          refine wpAnyH_ready (rs := [15]) (by kernel_rfl) (by simp) ?_
          refine (AllReadyH.cons rfl (fun K hK => ?_) AllReadyH.nil)
          ·rw [if_pos (by kernel_rfl)]
           (try simp only [zGa]); (try simp only [zGb]); (try simp only [zGc])
           refine wp_store_bk 32 (.tmp 9) (.tmp 62) rfl b14 _ #[.int .i64 0, .int .i64 0, .slice none 0 0] #[.int .i64 0, .int .i64 0, .slice A9 0 c9] (by kernel_rfl) rfl (by simp [Value.oneCell']) rfl (by first | with_reducible rfl | (go_simp; done) | rfl) hB14 ?_
           intro W' _ hgr
           skip
           skip
           skip
           refine hK.out _ _ (hS.grown hgr hS.size (fun k hk => by cases hk; exact n14)) (fun hS => ?_)
           clear hK
           (try simp only [Act.put]); (try simp only [zPa]); (try simp only [zPb, zPc])
           refine tkH (i := 16) (v := .bool false) rfl ?_
           go_simp
           refine wpAnyH_done (by kernel_rfl) ?_ _
           go_wp2_with fail
           go_meet
           case rel => exact ⟨rfl, Lib.hid hS⟩
    ·rw [if_pos (by kernel_rfl)]
     (try simp only [zGa]); (try simp only [zGb]); (try simp only [zGc])
     refine wp_build1K 54 rfl rfl ?_
     intro g5 W' hb hR5 l5 u5
     (try have e50 : g0 < g5 := Nat.lt_of_lt_of_le u0 l5)
     refine hK.out _ _ (hS.trans (hb.mono hS.size)) (fun hS => ?_)
     clear hK
     (try simp only [Act.put]); (try simp only [zPa]); (try simp only [zPb, zPc])
     refine wpAnyH_ready (rs := [0, 14]) (by kernel_rfl) (by simp) ?_
     refine (AllReadyH.cons rfl (fun K hK => ?_) (AllReadyH.cons rfl (fun K hK => ?_) AllReadyH.nil))
     ·rw [if_pos (by kernel_rfl)]
      (try simp only [zGa]); (try simp only [zGb]); (try simp only [zGc])
      refine wp_buildE 51 rfl rfl ?_
      intro g0 W' hb hE l0 u0
      have n0 := Nat.le_trans hS.size l0
      (try have e05 : g5 < g0 := Nat.lt_of_lt_of_le u5 l0)
      (try have e014 : b14 < g0 := Nat.lt_of_lt_of_le u14 l0)
      have hR5 := hR5.call hb
      have u5 := Nat.lt_of_lt_of_le u5 hb.size
      refine hK.out _ _ (hS.trans (hb.mono hS.size)) (fun hS => ?_)
      clear hK
      (try simp only [Act.put]); (try simp only [zPa]); (try simp only [zPb, zPc])
      refine wpAnyH_ready (rs := [2, 14]) (by kernel_rfl) (by simp) ?_
      refine (AllReadyH.cons rfl (fun K hK => ?_) (AllReadyH.cons rfl (fun K hK => ?_) AllReadyH.nil))
      ·rw [if_pos (by kernel_rfl)]
       (try simp only [zGa]); (try simp only [zGb]); (try simp only [zGc])
       refine wp_appendK (.tmp 51) (.tmp 52) rfl g0 0 0 M.length [] M (by first | with_reducible rfl | (go_simp; done) | rfl) hE (.slice A2 M.length c2') M (by first | with_reducible rfl | (go_simp; done) | rfl) (hr5.call hS) (by omega) rfl (by omega) (Nat.le_of_lt u0) ?_
       intro g1 c1' W' hW hgr f1
       have n1 : w5.heap.size ≤ g1 := by have := hS.size; omega
       have u1 := (hW.lt g1 rfl).2
       (try have e114 : b14 ≠ g1 := by omega)
       have hR5 := hR5.grown hgr (fun e => by injection e with e; omega)
       have u5 := Nat.lt_of_lt_of_le u5 hgr.size
       refine hK.out _ _ (hS.grown hgr hS.size (fun k hk => by cases hk; exact n0)) (fun hS => ?_)
       clear hK
       (try simp only [Act.put]); (try simp only [zPa]); (try simp only [zPb, zPc])
       refine wpAnyH_ready (rs := [4, 14]) (by kernel_rfl) (by simp) ?_
       refine (AllReadyH.cons rfl (fun K hK => ?_) (AllReadyH.cons rfl (fun K hK => ?_) AllReadyH.nil))
       ·rw [if_pos (by kernel_rfl)]
        (try simp only [zGa]); (try simp only [zGb]); (try simp only [zGc])
        refine wp_appendK (.tmp 53) (.tmp 54) rfl g1 M.length c1' (M.length + 1) M (M ++ [1]) (by first | with_reducible rfl | (go_simp; done) | rfl) (own_at hW) (.slice (some ⟨g5, 0, none⟩) 1 1) [1] (by first | with_reducible rfl | (go_simp; done) | rfl) (rd_one hR5) rfl rfl (by omega) (Nat.le_of_lt (hW.lt g1 rfl).2) ?_
        intro g2 c2x W' hX hgr f2
        have n2 : w5.heap.size ≤ g2 := by have := hS.size; omega
        refine hK.out _ _ (hS.grown hgr hS.size (fun k hk => by cases hk; exact n1)) (fun hS => ?_)
        clear hK
        (try simp only [Act.put]); (try simp only [zPa]); (try simp only [zPb, zPc])
        refine wpAnyH_ready (rs := [10, 14]) (by kernel_rfl) (by simp) ?_
        refine (AllReadyH.cons rfl (fun K hK => ?_) (AllReadyH.cons rfl (fun K hK => ?_) AllReadyH.nil))
        ·rw [if_pos (by kernel_rfl)]
         (try simp only [zGa]); (try simp only [zGb]); (try simp only [zGc])
         go_simp
         with_reducible refine (HMR.out _ _ (RdI.of_own hX)).mono ?_
         rintro e W' ⟨A9, c9, rfl, _, hb⟩
         dsimp only
         have hX := ownI_call hX hb
         refine hK.out _ _ (hS.trans (hb.mono hS.size)) (fun hS => ?_)
         clear hK
         (try simp only [Act.put]); (try simp only [zPa]); (try simp only [zPb, zPc])
         refine tkH (i := 11) (v := .tuple #[.agg #[.int .i64 0, .int .i64 0, .slice A9 0 c9], .bool false]) rfl ?_
         refine tkH (i := 12) (v := .agg #[.int .i64 0, .int .i64 0, .slice A9 0 c9]) rfl ?_
         refine tkH (i := 13) (v := .bool false) rfl ?_
         (try simp only [Act.put]); (try simp only [zPa]); (try simp only [zPb, zPc])
         refine wpAnyH_ready (rs := [14]) (by kernel_rfl) (by simp) ?_
         refine (AllReadyH.cons rfl (fun K hK => ?_) AllReadyH.nil)
         ·rw [if_pos (by kernel_rfl)]
          (try simp only [zGa]); (try simp only [zGb]); (try simp only [zGc])
          refine wp_alloc_bk 32 #[.int .i64 0, .int .i64 0, .slice none 0 0] (fun _ => by kernel_rfl) rfl 9 rfl ?_
          intro b14 W' hb hB14 l14
          have n14 := Nat.le_trans hS.size l14
          have u14 := hB14.lt
          (try have e140 : g0 < b14 := Nat.lt_of_lt_of_le u0 l14)
          (try have e141 : g1 < b14 := Nat.lt_of_lt_of_le u1 l14)
          have hX := ownI_call hX hb
          refine hK.out _ _ (hS.trans (hb.mono hS.size)) (fun hS => ?_)
          clear hK
          (try simp only [Act.put]); (try simp only [zPa]); (try simp only [zPb, zPc])
          refine wpAnyH_ready (rs := [15]) (by kernel_rfl) (by simp) ?_
          refine (AllReadyH.cons rfl (fun K hK => ?_) AllReadyH.nil)
          ·rw [if_pos (by kernel_rfl)]
           (try simp only [zGa]); (try simp only [zGb]); (try simp only [zGc])
           refine wp_store_bk 32 (.tmp 9) (.tmp 62) rfl b14 _ #[.int .i64 0, .int .i64 0, .slice none 0 0] #[.int .i64 0, .int .i64 0, .slice A9 0 c9] (by kernel_rfl) rfl (by simp [Value.oneCell']) rfl (by first | with_reducible rfl | (go_simp; done) | rfl) hB14 ?_
           intro W' _ hgr
           skip
           skip
           skip
           refine hK.out _ _ (hS.grown hgr hS.size (fun k hk => by cases hk; exact n14)) (fun hS => ?_)
           clear hK
           (try simp only [Act.put]); (try simp only [zPa]); (try simp only [zPb, zPc])
           refine tkH (i := 16) (v := .bool false) rfl ?_
           go_simp
           refine wpAnyH_done (by kernel_rfl) ?_ _
           go_wp2_with fail
           go_meet
           case rel => exact ⟨rfl, Lib.hid hS⟩
        ·rw [if_pos (by kernel_rfl)]
         (try simp only [zGa]); (try simp only [zGb]); (try simp only [zGc])
         refine wp_alloc_bk 32 #[.int .i64 0, .int .i64 0, .slice none 0 0] (fun _ => by kernel_rfl) rfl 9 rfl ?_
         intro b14 W' hb hB14 l14
         have n14 := Nat.le_trans hS.size l14
         have u14 := hB14.lt
         (try have e140 : g0 < b14 := Nat.lt_of_lt_of_le u0 l14)
         (try have e141 : g1 < b14 := Nat.lt_of_lt_of_le u1 l14)
         have hX := ownI_call hX hb
         refine hK.out _ _ (hS.trans (hb.mono hS.size)) (fun hS => ?_)
         clear hK
         (try simp only [Act.put]); (try simp only [zPa]); (try simp only [zPb, zPc])
         refine wpAnyH_ready (rs := [10]) (by kernel_rfl) (by simp) ?_
         refine (AllReadyH.cons rfl (fun K hK => ?_) AllReadyH.nil)
         ·rw [if_pos (by kernel_rfl)]
          (try simp only [zGa]); (try simp only [zGb]); (try simp only [zGc])
          go_simp
          with_reducible refine (HMR.out _ _ (RdI.of_own hX)).mono ?_
          rintro e W' ⟨A9, c9, rfl, _, hb⟩
          dsimp only
          have hX := ownI_call hX hb
          have hB14 := hB14.call hb
          have u14 := Nat.lt_of_lt_of_le u14 hb.size
          refine hK.out _ _ (hS.trans (hb.mono hS.size)) (fun hS => ?_)
          clear hK
          (try simp only [Act.put]); (try simp only [zPa]); (try simp only [zPb, zPc])
          refine tkH (i := 11) (v := .tuple #[.agg #[.int .i64 0, .int .i64 0, .slice A9 0 c9], .bool false]) rfl ?_
          refine tkH (i := 12) (v := .agg #[.int .i64 0, .int .i64 0, .slice A9 0 c9]) rfl ?_
          refine tkH (i := 13) (v := .bool false) rfl ?_
          (try simp only [Act.put]); (try simp only [zPa]); (try simp only [zPb, zPc])
          refine wpAnyH_ready (rs := [15]) (by kernel_rfl) (by simp) ?_
          refine (AllReadyH.cons rfl (fun K hK => ?_) AllReadyH.nil)
          ·rw [if_pos (by kernel_rfl)]
           (try simp only [zGa]); (try simp only [zGb]); (try simp only [zGc])
           refine wp_store_bk 32 (.tmp 9) (.tmp 62) rfl b14 _ #[.int .i64 0, .int .i64 0, .slice none 0 0] #[.int .i64 0, .int .i64 0, .slice A9 0 c9] (by kernel_rfl) rfl (by simp [Value.oneCell']) rfl (by first | with_reducible rfl | (go_simp; done) | rfl) hB14 ?_
           intro W' _ hgr
           skip
           skip
           skip
           refine hK.out _ _ (hS.grown hgr hS.size (fun k hk => by cases hk; exact n14)) (fun hS => ?_)
           clear hK
           (try simp only [Act.put]); (try simp only [zPa]); (try simp only [zPb, zPc])
           refine tkH (i := 16) (v := .bool false) rfl ?_
           go_simp
           refine wpAnyH_done (by kernel_rfl) ?_ _
           go_wp2_with fail
           go_meet
           case rel => exact ⟨rfl, Lib.hid hS⟩
       ·rw [if_pos (by kernel_rfl)]
        (try simp only [zGa]); (try simp only [zGb]); (try simp only [zGc])
        refine wp_alloc_bk 32 #[.int .i64 0, .int .i64 0, .slice none 0 0] (fun _ => by kernel_rfl) rfl 9 rfl ?_
        intro b14 W' hb hB14 l14
        have n14 := Nat.le_trans hS.size l14
        have u14 := hB14.lt
        (try have e140 : g0 < b14 := Nat.lt_of_lt_of_le u0 l14)
        (try have e141 : g1 < b14 := Nat.lt_of_lt_of_le u1 l14)
        have hR5 := hR5.call hb
        have u5 := Nat.lt_of_lt_of_le u5 hb.size
        have hW := ownI_call hW hb
        have u1 := Nat.lt_of_lt_of_le u1 hb.size
        refine hK.out _ _ (hS.trans (hb.mono hS.size)) (fun hS => ?_)
        clear hK
        (try simp only [Act.put]); (try simp only [zPa]); (try simp only [zPb, zPc])
        refine wpAnyH_ready (rs := [4]) (by kernel_rfl) (by simp) ?_
        refine (AllReadyH.cons rfl (fun K hK => ?_) AllReadyH.nil)
        ·rw [if_pos (by kernel_rfl)]
         (try simp only [zGa]); (try simp only [zGb]); (try simp only [zGc])
         refine wp_appendK (.tmp 53) (.tmp 54) rfl g1 M.length c1' (M.length + 1) M (M ++ [1]) (by first | with_reducible rfl | (go_simp; done) | rfl) (own_at hW) (.slice (some ⟨g5, 0, none⟩) 1 1) [1] (by first | with_reducible rfl | (go_simp; done) | rfl) (rd_one hR5) rfl rfl (by omega) (Nat.le_of_lt (hW.lt g1 rfl).2) ?_
         intro g2 c2x W' hX hgr f2
         have n2 : w5.heap.size ≤ g2 := by have := hS.size; omega
         have hB14 := hB14.grown hgr (fun e => by injection e with e; omega)
         have u14 := Nat.lt_of_lt_of_le u14 hgr.size
         refine hK.out _ _ (hS.grown hgr hS.size (fun k hk => by cases hk; exact n1)) (fun hS => ?_)
         clear hK
         (try simp only [Act.put]); (try simp only [zPa]); (try simp only [zPb, zPc])
         refine wpAnyH_ready (rs := [10]) (by kernel_rfl) (by simp) ?_
         refine (AllReadyH.cons rfl (fun K hK => ?_) AllReadyH.nil)
         ·rw [if_pos (by kernel_rfl)]
          (try simp only [zGa]); (try simp only [zGb]); (try simp only [zGc])
          go_simp
          with_reducible refine (HMR.out _ _ (RdI.of_own hX)).mono ?_
          rintro e W' ⟨A9, c9, rfl, _, hb⟩
          dsimp only
          have hB14 := hB14.call hb
          have u14 := Nat.lt_of_lt_of_le u14 hb.size
          have hX := ownI_call hX hb
          refine hK.out _ _ (hS.trans (hb.mono hS.size)) (fun hS => ?_)
          clear hK
          (try simp only [Act.put]); (try simp only [zPa]); (try simp only [zPb, zPc])
          refine tkH (i := 11) (v := .tuple #[.agg #[.int .i64 0, .int .i64 0, .slice A9 0 c9], .bool false]) rfl ?_
          refine tkH (i := 12) (v := .agg #[.int .i64 0, .int .i64 0, .slice A9 0 c9]) rfl ?_
          refine tkH (i := 13) (v := .bool false) rfl ?_
          (try simp only [Act.put]); (try simp only [zPa]); (try simp only [zPb, zPc])
          refine wpAnyH_ready (rs := [15]) (by kernel_rfl) (by simp) ?_
          refine (AllReadyH.cons rfl (fun K hK => ?_) AllReadyH.nil)
          ·rw [if_pos (by kernel_rfl)]
           (try simp only [zGa]); (try simp only [zGb]); (try simp only [zGc])
           refine wp_store_bk 32 (.tmp 9) (.tmp 62) rfl b14 _ #[.int .i64 0, .int .i64 0, .slice none 0 0] #[.int .i64 0, .int .i64 0, .slice A9 0 c9] (by kernel_rfl) rfl (by simp [Value.oneCell']) rfl (by first | with_reducible rfl | (go_simp; done) | rfl) hB14 ?_
           intro W' _ hgr
           skip
           skip
           skip
           refine hK.out _ _ (hS.grown hgr hS.size (fun k hk => by cases hk; exact n14)) (fun hS => ?_)
           clear hK
           (try simp only [Act.put]); (try simp only [zPa]); (try simp only [zPb, zPc])
           refine tkH (i := 16) (v := .bool false) rfl ?_
           go_simp
           refine wpAnyH_done (by kernel_rfl) ?_ _
           go_wp2_with fail
           go_meet
           case rel => exact ⟨rfl, Lib.hid hS⟩
      ·rw [if_pos (by kernel_rfl)]
       (try simp only [zGa]); (try simp only [zGb]); (try simp only [zGc])
       refine wp_alloc_bk 32 #[.int .i64 0, .int .i64 0, .slice none 0 0] (fun _ => by kernel_rfl) rfl 9 rfl ?_
       intro b14 W' hb hB14 l14
       have n14 := Nat.le_trans hS.size l14
       have u14 := hB14.lt
       (try have e140 : g0 < b14 := Nat.lt_of_lt_of_le u0 l14)
       (try have e141 : g1 < b14 := Nat.lt_of_lt_of_le u1 l14)
       have hR5 := hR5.call hb
       have u5 := Nat.lt_of_lt_of_le u5 hb.size
       have hE := ownI_call hE hb
       have u0 := Nat.lt_of_lt_of_le u0 hb.size
       refine hK.out _ _ (hS.trans (hb.mono hS.size)) (fun hS => ?_)
       clear hK
       (try simp only [Act.put]); (try simp only [zPa]); (try simp only [zPb, zPc])
       refine wpAnyH_ready (rs := [2]) (by kernel_rfl) (by simp) ?_
       refine (AllReadyH.cons rfl (fun K hK => ?_) AllReadyH.nil)
       ·rw [if_pos (by kernel_rfl)]
        (try simp only [zGa]); (try simp only [zGb]); (try simp only [zGc])
        refine wp_appendK (.tmp 51) (.tmp 52) rfl g0 0 0 M.length [] M (by first | with_reducible rfl | (go_simp; done) | rfl) hE (.slice A2 M.length c2') M (by first | with_reducible rfl | (go_simp; done) | rfl) (hr5.call hS) (by omega) rfl (by omega) (Nat.le_of_lt u0) ?_
        intro g1 c1' W' hW hgr f1
        have n1 : w5.heap.size ≤ g1 := by have := hS.size; omega
        have u1 := (hW.lt g1 rfl).2
        (try have e114 : b14 ≠ g1 := by omega)
        have hR5 := hR5.grown hgr (fun e => by injection e with e; omega)
        have u5 := Nat.lt_of_lt_of_le u5 hgr.size
        have hB14 := hB14.grown hgr (fun e => by injection e with e; omega)
        have u14 := Nat.lt_of_lt_of_le u14 hgr.size
        refine hK.out _ _ (hS.grown hgr hS.size (fun k hk => by cases hk; exact n0)) (fun hS => ?_)
        clear hK
        (try simp only [Act.put]); (try simp only [zPa]); (try simp only [zPb, zPc])
        refine wpAnyH_ready (rs := [4]) (by kernel_rfl) (by simp) ?_
        refine (AllReadyH.cons rfl (fun K hK => ?_) AllReadyH.nil)
        ·rw [if_pos (by kernel_rfl)]
         (try simp only [zGa]); (try simp only [zGb]); (try simp only [zGc])
         refine wp_appendK (.tmp 53) (.tmp 54) rfl g1 M.length c1' (M.length + 1) M (M ++ [1]) (by first | with_reducible rfl | (go_simp; done) | rfl) (own_at hW) (.slice (some ⟨g5, 0, none⟩) 1 1) [1] (by first | with_reducible rfl | (go_simp; done) | rfl) (rd_one hR5) rfl rfl (by omega) (Nat.le_of_lt (hW.lt g1 rfl).2) ?_
         intro g2 c2x W' hX hgr f2
         have n2 : w5.heap.size ≤ g2 := by have := hS.size; omega
         have hB14 := hB14.grown hgr (fun e => by injection e with e; omega)
         have u14 := Nat.lt_of_lt_of_le u14 hgr.size
         refine hK.out _ _ (hS.grown hgr hS.size (fun k hk => by cases hk; exact n1)) (fun hS => ?_)
         clear hK
         (try simp only [Act.put]); (try simp only [zPa]); (try simp only [zPb, zPc])
         refine wpAnyH_ready (rs := [10]) (by kernel_rfl) (by simp) ?_
         refine (AllReadyH.cons rfl (fun K hK => ?_) AllReadyH.nil)
         ·rw [if_pos (by kernel_rfl)]
          (try simp only [zGa]); (try simp only [zGb]); (try simp only [zGc])
          go_simp
          with_reducible refine (HMR.out _ _ (RdI.of_own hX)).mono ?_
          rintro e W' ⟨A9, c9, rfl, _, hb⟩
          dsimp only
          have hB14 := hB14.call hb
          have u14 := Nat.lt_of_lt_of_le u14 hb.size
          have hX := ownI_call hX hb
          refine hK.out _ _ (hS.trans (hb.mono hS.size)) (fun hS => ?_)
          clear hK
          (try simp only [Act.put]); (try simp only [zPa]); (try simp only [zPb, zPc])
          refine tkH (i := 11) (v := .tuple #[.agg #[.int .i64 0, .int .i64 0, .slice A9 0 c9], .bool false]) rfl ?_
          refine tkH (i := 12) (v := .agg #[.int .i64 0, .int .i64 0, .slice A9 0 c9]) rfl ?_
          refine tkH (i := 13) (v := .bool false) rfl ?_
          (try simp only [Act.put]); (try simp only [zPa]); (try simp only [zPb, zPc])
          refine wpAnyH_ready (rs := [15]) (by kernel_rfl) (by simp) ?_
          refine (AllReadyH.cons rfl (fun K hK => ?_) AllReadyH.nil)
          ·rw [if_pos (by kernel_rfl)]
           (try simp only [zGa]); (try simp only [zGb]); (try simp only [zGc])
           refine wp_store_bk 32 (.tmp 9) (.tmp 62) rfl b14 _ #[.int .i64 0, .int .i64 0, .slice none 0 0] #[.int .i64 0, .int .i64 0, .slice A9 0 c9] (by kernel_rfl) rfl (by simp [Value.oneCell']) rfl (by first | with_reducible rfl | (go_simp; done) | rfl) hB14 ?_
           intro W' _ hgr
           skip
           skip
           skip
           refine hK.out _ _ (hS.grown hgr hS.size (fun k hk => by cases hk; exact n14)) (fun hS => ?_)
           clear hK
           (try simp only [Act.put]); (try simp only [zPa]); (try simp only [zPb, zPc])
           refine tkH (i := 16) (v := .bool false) rfl ?_
           go_simp
           refine wpAnyH_done (by kernel_rfl) ?_ _
           go_wp2_with fail
           go_meet
           case rel => exact ⟨rfl, Lib.hid hS⟩
     ·rw [if_pos (by kernel_rfl)]
      (try simp only [zGa]); (try simp only [zGb]); (try simp only [zGc])
      refine wp_alloc_bk 32 #[.int .i64 0, .int .i64 0, .slice none 0 0] (fun _ => by kernel_rfl) rfl 9 rfl ?_
      intro b14 W' hb hB14 l14
      have n14 := Nat.le_trans hS.size l14
      have u14 := hB14.lt
      (try have e140 : g0 < b14 := Nat.lt_of_lt_of_le u0 l14)
      (try have e141 : g1 < b14 := Nat.lt_of_lt_of_le u1 l14)
      have hR5 := hR5.call hb
      have u5 := Nat.lt_of_lt_of_le u5 hb.size
      refine hK.out _ _ (hS.trans (hb.mono hS.size)) (fun hS => ?_)
      clear hK
      (try simp only [Act.put]); (try simp only [zPa]); (try simp only [zPb, zPc])
      refine wpAnyH_ready (rs := [0]) (by kernel_rfl) (by simp) ?_
      refine (AllReadyH.cons rfl (fun K hK => ?_) AllReadyH.nil)
      ·rw [if_pos (by kernel_rfl)]
       (try simp only [zGa]); (try simp only [zGb]); (try simp only [zGc])
       refine wp_buildE 51 rfl rfl ?_
       intro g0 W' hb hE l0 u0
       have n0 := Nat.le_trans hS.size l0
       (try have e05 : g5 < g0 := Nat.lt_of_lt_of_le u5 l0)
       (try have e014 : b14 < g0 := Nat.lt_of_lt_of_le u14 l0)
       have hR5 := hR5.call hb
       have u5 := Nat.lt_of_lt_of_le u5 hb.size
       have hB14 := hB14.call hb
       have u14 := Nat.lt_of_lt_of_le u14 hb.size
       refine hK.out _ _ (hS.trans (hb.mono hS.size)) (fun hS => ?_)
       clear hK
       (try simp only [Act.put]); (try simp only [zPa]); (try simp only [zPb, zPc])
       refine wpAnyH_ready (rs := [2]) (by kernel_rfl) (by simp) ?_
       refine (AllReadyH.cons rfl (fun K hK => ?_) AllReadyH.nil)
       ·rw [if_pos (by kernel_rfl)]
        (try simp only [zGa]); (try simp only [zGb]); (try simp only [zGc])
        refine wp_appendK (.tmp 51) (.tmp 52) rfl g0 0 0 M.length [] M (by first | with_reducible rfl | (go_simp; done) | rfl) hE (.slice A2 M.length c2') M (by first | with_reducible rfl | (go_simp; done) | rfl) (hr5.call hS) (by omega) rfl (by omega) (Nat.le_of_lt u0) ?_
        intro g1 c1' W' hW hgr f1
        have n1 : w5.heap.size ≤ g1 := by have := hS.size; omega
        have u1 := (hW.lt g1 rfl).2
        (try have e114 : b14 ≠ g1 := by omega)
        have hR5 := hR5.grown hgr (fun e => by injection e with e; omega)
        have u5 := Nat.lt_of_lt_of_le u5 hgr.size
        have hB14 := hB14.grown hgr (fun e => by injection e with e; omega)
        have u14 := Nat.lt_of_lt_of_le u14 hgr.size
        refine hK.out _ _ (hS.grown hgr hS.size (fun k hk => by cases hk; exact n0)) (fun hS => ?_)
        clear hK
        (try simp only [Act.put]); (try simp only [zPa]); (try simp only [zPb, zPc])
        refine wpAnyH_ready (rs := [4]) (by kernel_rfl) (by simp) ?_
        refine (AllReadyH.cons rfl (fun K hK => ?_) AllReadyH.nil)
        ·rw [if_pos (by kernel_rfl)]
         (try simp only [zGa]); (try simp only [zGb]); (try simp only [zGc])
         refine wp_appendK (.tmp 53) (.tmp 54) rfl g1 M.length c1' (M.length + 1) M (M ++ [1]) (by first | with_reducible rfl | (go_simp; done) | rfl) (own_at hW) (.slice (some ⟨g5, 0, none⟩) 1 1) [1] (by first | with_reducible rfl | (go_simp; done) | rfl) (rd_one hR5) rfl rfl (by omega) (Nat.le_of_lt (hW.lt g1 rfl).2) ?_
         intro g2 c2x W' hX hgr f2
         have n2 : w5.heap.size ≤ g2 := by have := hS.size; omega
         have hB14 := hB14.grown hgr (fun e => by injection e with e; omega)
         have u14 := Nat.lt_of_lt_of_le u14 hgr.size
         refine hK.out _ _ (hS.grown hgr hS.size (fun k hk => by cases hk; exact n1)) (fun hS => ?_)
         clear hK
         (try simp only [Act.put]); (try simp only [zPa]); (try simp only [zPb, zPc])
         refine wpAnyH_ready (rs := [10]) (by kernel_rfl) (by simp) ?_
         refine (AllReadyH.cons rfl (fun K hK => ?_) AllReadyH.nil)
         ·rw [if_pos (by kernel_rfl)]
          (try simp only [zGa]); (try simp only [zGb]); (try simp only [zGc])
          go_simp
          with_reducible refine (HMR.out _ _ (RdI.of_own hX)).mono ?_
          rintro e W' ⟨A9, c9, rfl, _, hb⟩
          dsimp only
          have hB14 := hB14.call hb
          have u14 := Nat.lt_of_lt_of_le u14 hb.size
          have hX := ownI_call hX hb
          refine hK.out _ _ (hS.trans (hb.mono hS.size)) (fun hS => ?_)
          clear hK
          (try simp only [Act.put]); (try simp only [zPa]); (try simp only [zPb, zPc])
          refine tkH (i := 11) (v := .tuple #[.agg #[.int .i64 0, .int .i64 0, .slice A9 0 c9], .bool false]) rfl ?_
          refine tkH (i := 12) (v := .agg #[.int .i64 0, .int .i64 0, .slice A9 0 c9]) rfl ?_
          refine tkH (i := 13) (v := .bool false) rfl ?_
          (try simp only [Act.put]); (try simp only [zPa]); (try simp only [zPb, zPc])
          refine wpAnyH_ready (rs := [15]) (by kernel_rfl) (by simp) ?_
          refine (AllReadyH.cons rfl (fun K hK => ?_) AllReadyH.nil)
          ·rw [if_pos (by kernel_rfl)]
           (try simp only [zGa]); (try simp only [zGb]); (try simp only [zGc])
           refine wp_store_bk 32 (.tmp 9) (.tmp 62) rfl b14 _ #[.int .i64 0, .int .i64 0, .slice none 0 0] #[.int .i64 0, .int .i64 0, .slice A9 0 c9] (by kernel_rfl) rfl (by simp [Value.oneCell']) rfl (by first | with_reducible rfl | (go_simp; done) | rfl) hB14 ?_
           intro W' _ hgr
           skip
           skip
           skip
           refine hK.out _ _ (hS.grown hgr hS.size (fun k hk => by cases hk; exact n14)) (fun hS => ?_)
           clear hK
           (try simp only [Act.put]); (try simp only [zPa]); (try simp only [zPb, zPc])
           refine tkH (i := 16) (v := .bool false) rfl ?_
           go_simp
           refine wpAnyH_done (by kernel_rfl) ?_ _
           go_wp2_with fail
           go_meet
           case rel => exact ⟨rfl, Lib.hid hS⟩
    ·rw [if_pos (by kernel_rfl)]
     (try simp only [zGa]); (try simp only [zGb]); (try simp only [zGc])
     refine wp_alloc_bk 32 #[.int .i64 0, .int .i64 0, .slice none 0 0] (fun _ => by kernel_rfl) rfl 9 rfl ?_
     intro b14 W' hb hB14 l14
     have n14 := Nat.le_trans hS.size l14
     have u14 := hB14.lt
     (try have e140 : g0 < b14 := Nat.lt_of_lt_of_le u0 l14)
     (try have e141 : g1 < b14 := Nat.lt_of_lt_of_le u1 l14)
     refine hK.out _ _ (hS.trans (hb.mono hS.size)) (fun hS => ?_)
     clear hK
     (try simp only [Act.put]); (try simp only [zPa]); (try simp only [zPb, zPc])
     refine wpAnyH_ready (rs := [0, 3]) (by kernel_rfl) (by simp) ?_
     refine (AllReadyH.cons rfl (fun K hK => ?_) (AllReadyH.cons rfl (fun K hK => ?_) AllReadyH.nil))
     ·rw [if_pos (by kernel_rfl)]
      (try simp only [zGa]); (try simp only [zGb]); (try simp only [zGc])
      refine wp_buildE 51 rfl rfl ?_
      intro g0 W' hb hE l0 u0
      have n0 := Nat.le_trans hS.size l0
      (try have e05 : g5 < g0 := Nat.lt_of_lt_of_le u5 l0)
      (try have e014 : b14 < g0 := Nat.lt_of_lt_of_le u14 l0)
      have hB14 := hB14.call hb
      have u14 := Nat.lt_of_lt_of_le u14 hb.size
      refine hK.out _ _ (hS.trans (hb.mono hS.size)) (fun hS => ?_)
      clear hK
      (try simp only [Act.put]); (try simp only [zPa]); (try simp only [zPb, zPc])
      refine wpAnyH_ready (rs := [2, 3]) (by kernel_rfl) (by simp) ?_
      refine (AllReadyH.cons rfl (fun K hK => ?_) (AllReadyH.cons rfl (fun K hK => ?_) AllReadyH.nil))
      ·rw [if_pos (by kernel_rfl)]
       (try simp only [zGa]); (try simp only [zGb]); (try simp only [zGc])
       refine wp_appendK (.tmp 51) (.tmp 52) rfl g0 0 0 M.length [] M (by first | with_reducible rfl | (go_simp; done) | rfl) hE (.slice A2 M.length c2') M (by first | with_reducible rfl | (go_simp; done) | rfl) (hr5.call hS) (by omega) rfl (by omega) (Nat.le_of_lt u0) ?_
       intro g1 c1' W' hW hgr f1
       have n1 : w5.heap.size ≤ g1 := by have := hS.size; omega
       have u1 := (hW.lt g1 rfl).2
       (try have e114 : b14 ≠ g1 := by omega)
       have hB14 := hB14.grown hgr (fun e => by injection e with e; omega)
       have u14 := Nat.lt_of_lt_of_le u14 hgr.size
       refine hK.out _ _ (hS.grown hgr hS.size (fun k hk => by cases hk; exact n0)) (fun hS => ?_)
       clear hK
       (try simp only [Act.put]); (try simp only [zPa]); (try simp only [zPb, zPc])
       refine wpAnyH_ready (rs := [3]) (by kernel_rfl) (by simp) ?_
       refine (AllReadyH.cons rfl (fun K hK => ?_) AllReadyH.nil)
       ·rw [if_pos (by kernel_rfl)]
        (try simp only [zGa]); (try simp only [zGb]); (try simp only [zGc])
        refine wp_build1K 54 rfl rfl ?_
        intro g5 W' hb hR5 l5 u5
        (try have e50 : g0 < g5 := Nat.lt_of_lt_of_le u0 l5)
        have hB14 := hB14.call hb
        have u14 := Nat.lt_of_lt_of_le u14 hb.size
        have hW := ownI_call hW hb
        have u1 := Nat.lt_of_lt_of_le u1 hb.size
        refine hK.out _ _ (hS.trans (hb.mono hS.size)) (fun hS => ?_)
        clear hK
        (try simp only [Act.put]); (try simp only [zPa]); (try simp only [zPb, zPc])
        refine wpAnyH_ready (rs := [4]) (by kernel_rfl) (by simp) ?_
        refine (AllReadyH.cons rfl (fun K hK => ?_) AllReadyH.nil)
        ·rw [if_pos (by kernel_rfl)]
         (try simp only [zGa]); (try simp only [zGb]); (try simp only [zGc])
         refine wp_appendK (.tmp 53) (.tmp 54) rfl g1 M.length c1' (M.length + 1) M (M ++ [1]) (by first | with_reducible rfl | (go_simp; done) | rfl) (own_at hW) (.slice (some ⟨g5, 0, none⟩) 1 1) [1] (by first | with_reducible rfl | (go_simp; done) | rfl) (rd_one hR5) rfl rfl (by omega) (Nat.le_of_lt (hW.lt g1 rfl).2) ?_
         intro g2 c2x W' hX hgr f2
         have n2 : w5.heap.size ≤ g2 := by have := hS.size; omega
         have hB14 := hB14.grown hgr (fun e => by injection e with e; omega)
         have u14 := Nat.lt_of_lt_of_le u14 hgr.size
         refine hK.out _ _ (hS.grown hgr hS.size (fun k hk => by cases hk; exact n1)) (fun hS => ?_)
         clear hK
         (try simp only [Act.put]); (try simp only [zPa]); (try simp only [zPb, zPc])
         refine wpAnyH_ready (rs := [10]) (by kernel_rfl) (by simp) ?_
         refine (AllReadyH.cons rfl (fun K hK => ?_) AllReadyH.nil)
         ·rw [if_pos (by kernel_rfl)]
          (try simp only [zGa]); (try simp only [zGb]); (try simp only [zGc])
          go_simp
          with_reducible refine (HMR.out _ _ (RdI.of_own hX)).mono ?_
          rintro e W' ⟨A9, c9, rfl, _, hb⟩
          dsimp only
          have hB14 := hB14.call hb
          have u14 := Nat.lt_of_lt_of_le u14 hb.size
          have hX := ownI_call hX hb
          refine hK.out _ _ (hS.trans (hb.mono hS.size)) (fun hS => ?_)
          clear hK
          (try simp only [Act.put]); (try simp only [zPa]); (try simp only [zPb, zPc])
          refine tkH (i := 11) (v := .tuple #[.agg #[.int .i64 0, .int .i64 0, .slice A9 0 c9], .bool false]) rfl ?_
          refine tkH (i := 12) (v := .agg #[.int .i64 0, .int .i64 0, .slice A9 0 c9]) rfl ?_
          refine tkH (i := 13) (v := .bool false) rfl ?_
          (try simp only [Act.put]); (try simp only [zPa]); (try simp only [zPb, zPc])
          refine wpAnyH_ready (rs := [15]) (by kernel_rfl) (by simp) ?_
          refine (AllReadyH.cons rfl (fun K hK => ?_) AllReadyH.nil)
          ·rw [if_pos (by kernel_rfl)]
           (try simp only [zGa]); (try simp only [zGb]); (try simp only [zGc])
           refine wp_store_bk 32 (.tmp 9) (.tmp 62) rfl b14 _ #[.int .i64 0, .int .i64 0, .slice none 0 0] #[.int .i64 0, .int .i64 0, .slice A9 0 c9] (by kernel_rfl) rfl (by simp [Value.oneCell']) rfl (by first | with_reducible rfl | (go_simp; done) | rfl) hB14 ?_
           intro W' _ hgr
           skip
           skip
           skip
           refine hK.out _ _ (hS.grown hgr hS.size (fun k hk => by cases hk; exact n14)) (fun hS => ?_)
           clear hK
           (try simp only [Act.put]); (try simp only [zPa]); (try simp only [zPb, zPc])
           refine tkH (i := 16) (v := .bool false) rfl ?_
           go_simp
           refine wpAnyH_done (by kernel_rfl) ?_ _
           go_wp2_with fail
           go_meet
           case rel => exact ⟨rfl, Lib.hid hS⟩
      ·rw [if_pos (by kernel_rfl)]
       (try simp only [zGa]); (try simp only [zGb]); (try simp only [zGc])
       refine wp_build1K 54 rfl rfl ?_
       intro g5 W' hb hR5 l5 u5
       (try have e50 : g0 < g5 := Nat.lt_of_lt_of_le u0 l5)
       have hB14 := hB14.call hb
       have u14 := Nat.lt_of_lt_of_le u14 hb.size
       have hE := ownI_call hE hb
       have u0 := Nat.lt_of_lt_of_le u0 hb.size
       refine hK.out _ _ (hS.trans (hb.mono hS.size)) (fun hS => ?_)
       clear hK
       (try simp only [Act.put]); (try simp only [zPa]); (try simp only [zPb, zPc])
       refine wpAnyH_ready (rs := [2]) (by kernel_rfl) (by simp) ?_
       refine (AllReadyH.cons rfl (fun K hK => ?_) AllReadyH.nil)
       ·rw [if_pos (by kernel_rfl)]
        (try simp only [zGa]); (try simp only [zGb]); (try simp only [zGc])
        refine wp_appendK (.tmp 51) (.tmp 52) rfl g0 0 0 M.length [] M (by first | with_reducible rfl | (go_simp; done) | rfl) hE (.slice A2 M.length c2') M (by first | with_reducible rfl | (go_simp; done) | rfl) (hr5.call hS) (by omega) rfl (by omega) (Nat.le_of_lt u0) ?_
        intro g1 c1' W' hW hgr f1
        have n1 : w5.heap.size ≤ g1 := by have := hS.size; omega
        have u1 := (hW.lt g1 rfl).2
        (try have e114 : b14 ≠ g1 := by omega)
        have hB14 := hB14.grown hgr (fun e => by injection e with e; omega)
        have u14 := Nat.lt_of_lt_of_le u14 hgr.size
        have hR5 := hR5.grown hgr (fun e => by injection e with e; omega)
        have u5 := Nat.lt_of_lt_of_le u5 hgr.size
        refine hK.out _ _ (hS.grown hgr hS.size (fun k hk => by cases hk; exact n0)) (fun hS => ?_)
        clear hK
        (try simp only [Act.put]); (try simp only [zPa]); (try simp only [zPb, zPc])
        refine wpAnyH_ready (rs := [4]) (by kernel_rfl) (by simp) ?_
        refine (AllReadyH.cons rfl (fun K hK => ?_) AllReadyH.nil)
        ·rw [if_pos (by kernel_rfl)]
         (try simp only [zGa]); (try simp only [zGb]); (try simp only [zGc])
         refine wp_appendK (.tmp 53) (.tmp 54) rfl g1 M.length c1' (M.length + 1) M (M ++ [1]) (by first | with_reducible rfl | (go_simp; done) | rfl) (own_at hW) (.slice (some ⟨g5, 0, none⟩) 1 1) [1] (by first | with_reducible rfl | (go_simp; done) | rfl) (rd_one hR5) rfl rfl (by omega) (Nat.le_of_lt (hW.lt g1 rfl).2) ?_
         intro g2 c2x W' hX hgr f2
         have n2 : w5.heap.size ≤ g2 := by have := hS.size; omega
         have hB14 := hB14.grown hgr (fun e => by injection e with e; omega)
         have u14 := Nat.lt_of_lt_of_le u14 hgr.size
         refine hK.out _ _ (hS.grown hgr hS.size (fun k hk => by cases hk; exact n1)) (fun hS => ?_)
         clear hK
         (try simp only [Act.put]); (try simp only [zPa]); (try simp only [zPb, zPc])
         refine wpAnyH_ready (rs := [10]) (by kernel_rfl) (by simp) ?_
         refine (AllReadyH.cons rfl (fun K hK => ?_) AllReadyH.nil)
         ·rw [if_pos (by kernel_rfl)]
          (try simp only [zGa]); (try simp only [zGb]); (try simp only [zGc])
          go_simp
          with_reducible refine (HMR.out _ _ (RdI.of_own hX)).mono ?_
          rintro e W' ⟨A9, c9, rfl, _, hb⟩
          dsimp only
          have hB14 := hB14.call hb
          have u14 := Nat.lt_of_lt_of_le u14 hb.size
          have hX := ownI_call hX hb
          refine hK.out _ _ (hS.trans (hb.mono hS.size)) (fun hS => ?_)
          clear hK
          (try simp only [Act.put]); (try simp only [zPa]); (try simp only [zPb, zPc])
          refine tkH (i := 11) (v := .tuple #[.agg #[.int .i64 0, .int .i64 0, .slice A9 0 c9], .bool false]) rfl ?_
          refine tkH (i := 12) (v := .agg #[.int .i64 0, .int .i64 0, .slice A9 0 c9]) rfl ?_
          refine tkH (i := 13) (v := .bool false) rfl ?_
          (try simp only [Act.put]); (try simp only [zPa]); (try simp only [zPb, zPc])
          refine wpAnyH_ready (rs := [15]) (by kernel_rfl) (by simp) ?_
          refine (AllReadyH.cons rfl (fun K hK => ?_) AllReadyH.nil)
          ·rw [if_pos (by kernel_rfl)]
           (try simp only [zGa]); (try simp only [zGb]); (try simp only [zGc])
           refine wp_store_bk 32 (.tmp 9) (.tmp 62) rfl b14 _ #[.int .i64 0, .int .i64 0, .slice none 0 0] #[.int .i64 0, .int .i64 0, .slice A9 0 c9] (by kernel_rfl) rfl (by simp [Value.oneCell']) rfl (by first | with_reducible rfl | (go_simp; done) | rfl) hB14 ?_
           intro W' _ hgr
           skip
           skip
           skip
           refine hK.out _ _ (hS.grown hgr hS.size (fun k hk => by cases hk; exact n14)) (fun hS => ?_)
           clear hK
           (try simp only [Act.put]); (try simp only [zPa]); (try simp only [zPb, zPc])
           refine tkH (i := 16) (v := .bool false) rfl ?_
           go_simp
           refine wpAnyH_done (by kernel_rfl) ?_ _
           go_wp2_with fail
           go_meet
           case rel => exact ⟨rfl, Lib.hid hS⟩
     ·rw [if_pos (by kernel_rfl)]
      (try simp only [zGa]); (try simp only [zGb]); (try simp only [zGc])
      refine wp_build1K 54 rfl rfl ?_
      intro g5 W' hb hR5 l5 u5
      (try have e50 : g0 < g5 := Nat.lt_of_lt_of_le u0 l5)
      have hB14 := hB14.call hb
      have u14 := Nat.lt_of_lt_of_le u14 hb.size
      refine hK.out _ _ (hS.trans (hb.mono hS.size)) (fun hS => ?_)
      clear hK
      (try simp only [Act.put]); (try simp only [zPa]); (try simp only [zPb, zPc])
      refine wpAnyH_ready (rs := [0]) (by kernel_rfl) (by simp) ?_
      refine (AllReadyH.cons rfl (fun K hK => ?_) AllReadyH.nil)
      ·rw [if_pos (by kernel_rfl)]
       (try simp only [zGa]); (try simp only [zGb]); (try simp only [zGc])
       refine wp_buildE 51 rfl rfl ?_
       intro g0 W' hb hE l0 u0
       have n0 := Nat.le_trans hS.size l0
       (try have e05 : g5 < g0 := Nat.lt_of_lt_of_le u5 l0)
       (try have e014 : b14 < g0 := Nat.lt_of_lt_of_le u14 l0)
       have hB14 := hB14.call hb
       have u14 := Nat.lt_of_lt_of_le u14 hb.size
       have hR5 := hR5.call hb
       have u5 := Nat.lt_of_lt_of_le u5 hb.size
       refine hK.out _ _ (hS.trans (hb.mono hS.size)) (fun hS => ?_)
       clear hK
       (try simp only [Act.put]); (try simp only [zPa]); (try simp only [zPb, zPc])
       refine wpAnyH_ready (rs := [2]) (by kernel_rfl) (by simp) ?_
       refine (AllReadyH.cons rfl (fun K hK => ?_) AllReadyH.nil)
       ·rw [if_pos (by kernel_rfl)]
        (try simp only [zGa]); (try simp only [zGb]); (try simp only [zGc])
        refine wp_appendK (.tmp 51) (.tmp 52) rfl g0 0 0 M.length [] M (by first | with_reducible rfl | (go_simp; done) | rfl) hE (.slice A2 M.length c2') M (by first | with_reducible rfl | (go_simp; done) | rfl) (hr5.call hS) (by omega) rfl (by omega) (Nat.le_of_lt u0) ?_
        intro g1 c1' W' hW hgr f1
        have n1 : w5.heap.size ≤ g1 := by have := hS.size; omega
        have u1 := (hW.lt g1 rfl).2
        (try have e114 : b14 ≠ g1 := by omega)
        have hB14 := hB14.grown hgr (fun e => by injection e with e; omega)
        have u14 := Nat.lt_of_lt_of_le u14 hgr.size
        have hR5 := hR5.grown hgr (fun e => by injection e with e; omega)
        have u5 := Nat.lt_of_lt_of_le u5 hgr.size
        refine hK.out _ _ (hS.grown hgr hS.size (fun k hk => by cases hk; exact n0)) (fun hS => ?_)
        clear hK
        (try simp only [Act.put]); (try simp only [zPa]); (try simp only [zPb, zPc])
        refine wpAnyH_ready (rs := [4]) (by kernel_rfl) (by simp) ?_
        refine (AllReadyH.cons rfl (fun K hK => ?_) AllReadyH.nil)
        ·rw [if_pos (by kernel_rfl)]
         (try simp only [zGa]); (try simp only [zGb]); (try simp only [zGc])
         refine wp_appendK (.tmp 53) (.tmp 54) rfl g1 M.length c1' (M.length + 1) M (M ++ [1]) (by first | with_reducible rfl | (go_simp; done) | rfl) (own_at hW) (.slice (some ⟨g5, 0, none⟩) 1 1) [1] (by first | with_reducible rfl | (go_simp; done) | rfl) (rd_one hR5) rfl rfl (by omega) (Nat.le_of_lt (hW.lt g1 rfl).2) ?_
         intro g2 c2x W' hX hgr f2
         have n2 : w5.heap.size ≤ g2 := by have := hS.size; omega
         have hB14 := hB14.grown hgr (fun e => by injection e with e; omega)
         have u14 := Nat.lt_of_lt_of_le u14 hgr.size
         refine hK.out _ _ (hS.grown hgr hS.size (fun k hk => by cases hk; exact n1)) (fun hS => ?_)
         clear hK
         (try simp only [Act.put]); (try simp only [zPa]); (try simp only [zPb, zPc])
         refine wpAnyH_ready (rs := [10]) (by kernel_rfl) (by simp) ?_
         refine (AllReadyH.cons rfl (fun K hK => ?_) AllReadyH.nil)
         ·rw [if_pos (by kernel_rfl)]
          (try simp only [zGa]); (try simp only [zGb]); (try simp only [zGc])
          go_simp
          with_reducible refine (HMR.out _ _ (RdI.of_own hX)).mono ?_
          rintro e W' ⟨A9, c9, rfl, _, hb⟩
          dsimp only
          have hB14 := hB14.call hb
          have u14 := Nat.lt_of_lt_of_le u14 hb.size
          have hX := ownI_call hX hb
          refine hK.out _ _ (hS.trans (hb.mono hS.size)) (fun hS => ?_)
          clear hK
          (try simp only [Act.put]); (try simp only [zPa]); (try simp only [zPb, zPc])
          refine tkH (i := 11) (v := .tuple #[.agg #[.int .i64 0, .int .i64 0, .slice A9 0 c9], .bool false]) rfl ?_
          refine tkH (i := 12) (v := .agg #[.int .i64 0, .int .i64 0, .slice A9 0 c9]) rfl ?_
          refine tkH (i := 13) (v := .bool false) rfl ?_
          (try simp only [Act.put]); (try simp only [zPa]); (try simp only [zPb, zPc])
          refine wpAnyH_ready (rs := [15]) (by kernel_rfl) (by simp) ?_
          refine (AllReadyH.cons rfl (fun K hK => ?_) AllReadyH.nil)
          ·rw [if_pos (by kernel_rfl)]
           (try simp only [zGa]); (try simp only [zGb]); (try simp only [zGc])
           refine wp_store_bk 32 (.tmp 9) (.tmp 62) rfl b14 _ #[.int .i64 0, .int .i64 0, .slice none 0 0] #[.int .i64 0, .int .i64 0, .slice A9 0 c9] (by kernel_rfl) rfl (by simp [Value.oneCell']) rfl (by first | with_reducible rfl | (go_simp; done) | rfl) hB14 ?_
           intro W' _ hgr
           skip
           skip
           skip
           refine hK.out _ _ (hS.grown hgr hS.size (fun k hk => by cases hk; exact n14)) (fun hS => ?_)
           clear hK
           (try simp only [Act.put]); (try simp only [zPa]); (try simp only [zPb, zPc])
           refine tkH (i := 16) (v := .bool false) rfl ?_
           go_simp
           refine wpAnyH_done (by kernel_rfl) ?_ _
           go_wp2_with fail
           go_meet
           case rel => exact ⟨rfl, Lib.hid hS⟩
   case rest =>
    obtain ⟨rfl, HB6⟩ := hcut
    go_wp2_with fail
    go_roundw
    case rel => exact ⟨k + 1, by omega, by go_num, Lib.hid (belI_call B5 HB6.out)⟩
    case measure => simp [intOf]; omega
  ·obtain rfl : k = 3 := by omega
   have V0 := Vi.call HB.out
   obtain ⟨w0, hw0⟩ : ∃ V, V = wr := ⟨_, rfl⟩
   have hown : (wr.alloc (.cells #[] 3)).ownsRow w0.heap.size 3 1 (.slice (some ⟨wr.heap.size, 0, none⟩) 0 0) 0 (intCells (plcL W H 0)) := by rw [hw0]; exact ownI_zero wr
   have HS0 : Hid (ImV w.heap.size (bi + 1) bi W H (.slice A L.length c) L (wr.alloc (.cells #[] 3)) ∧ (wr.alloc (.cells #[] 3)).ownsRow w0.heap.size 3 1 (.slice (some ⟨wr.heap.size, 0, none⟩) 0 0) 0 (intCells (plcL W H 0)) ∧ Below w0.heap.size w0 (wr.alloc (.cells #[] 3))) := Lib.hid ⟨V0.call (belI_box _ _), hown, by rw [hw0]; exact belI_box _ _⟩
   have HW0 := Lib.hid hw0
   have HZ0 : Hid (bi + 1 ≤ w0.heap.size) := Lib.hid (by rw [hw0]; exact V0.hs)
   obtain ⟨N, hN⟩ : ∃ N, N = W * H := ⟨_, rfl⟩
   have hN256 : N ≤ 256 := by rw [hN]; exact mul_256 wh hh
   have qm : IntKind.i64.wrap ((W : Int) * (H : Int)) = (N : Int) := by rw [hN, ← Int.natCast_mul]; exact wrap_in _ (by omega) (by omega)
   have HN := Lib.hid hN
   have HK0 := Lib.hid (belI_call K HB.out)
   clear hown hw0 hN V0
   go_wp2_with fail
   go_loopg [11, 12] N (fun gk s11 s12 wr => ∃ (j : Nat) (u : Value) (V : World), V = wr ∧ j ≤ N ∧ gk = N - j ∧ u = s11 ∧ s12 = .int .i64 j ∧ Hid (ImV w.heap.size (bi + 1) bi W H (.slice A L.length c) L V ∧ V.ownsRow w0.heap.size 3 1 u j (intCells (plcL W H j)) ∧ Below w0.heap.size w0 V))
   case atStart => exact ⟨0, _, _, rfl, by omega, by omega, rfl, rfl, HS0⟩
   case round =>
    clear HS0
    obtain ⟨j, u, wz, hV, hj, rfl, rfl, rfl, HS⟩ := hrel
    subst hV
    obtain ⟨Vz, hown, Bz⟩ := HS.out
    obtain ⟨x0, x1, x2⟩ := Vz.cells
    by_cases hlt : j < N
    ·have hji : (j : Int) < (N : Int) := by omega
     have hjW : j < W * H := by rw [← HN.out]; exact hlt
     obtain ⟨x, hx⟩ : ∃ x, x = j % W := ⟨_, rfl⟩
     obtain ⟨y, hy⟩ : ∃ y, y = j / W := ⟨_, rfl⟩
     have hxW : x < W := by rw [hx]; exact Nat.mod_lt _ (by omega)
     have hyH : y < H := by rw [hy]; exact plc_row hjW
     have tx : Int.tmod (j : Int) (W : Int) = (x : Int) := by rw [hx, Int.tmod_eq_emod_of_nonneg (by omega)]; simp
     have tx2 : (j : Int) % (W : Int) = (x : Int) := by rw [hx]; simp
     have ty : Int.tdiv (j : Int) (W : Int) = (y : Int) := by rw [hy, Int.tdiv_eq_ediv_of_nonneg (by omega)]; simp
     have ty2 : (j : Int) / (W : Int) = (y : Int) := by rw [hy]; simp
     have yw := wrap_in (y : Int) (by omega) (by omega)
     have hW0 : ¬ W = 0 := by omega
     have hWi : ¬ (W : Int) = 0 := by omega
     have hWi2 : (0 : Int) < (W : Int) := by omega
     have HP := fun V => wplI W H 1 x y V
     unfold IntBe at HP
     have hpb := plk_bd Ho.out.1 (Or.inr rfl) hjW
     obtain ⟨p, hp⟩ : ∃ p : Nat, p = plk W H 1 j := ⟨_, rfl⟩
     have hpw : wpl W H 1 x y = (p : Int) := by rw [hp, hpb.2, plk_nat _ _ _ W _ rfl, ← hx, ← hy]
     rw [hpw] at HP
     have HP := Lib.hid HP
     have HWC := fun V => wctI W H 1 V
     unfold IntIs at HWC
     obtain ⟨ct, hct⟩ : ∃ z, z = wct W H 1 := ⟨_, rfl⟩
     rw [← hct] at HWC
     have HWC := Lib.hid HWC
     have hpc : ¬ (p : Int) ≥ ct := by have := hpb.1; omega
     have hpc2 : ¬ ct ≤ (p : Int) := by omega
     have hp0 : ¬ (p : Int) < 0 := by omega
     have Hp := Lib.hid hp
     have hnew := plcL_new Ho.out.1 hjW
     rw [← hp] at hnew
     have Hnew := Lib.hid hnew
     clear hx hy hpb hp hpw hct hnew hjW x0 x1 x2
     obtain ⟨x0, x1, x2⟩ := Vz.cells
     go_upto_region 18 with fail
     clear x0 x1 x2
     go_cut [13] (fun s13 wx => s13 = .int .i64 p ∧ Hid (Below wz.heap.size wz wx))
     case first =>
      refine wp_region_held_drew (S := fun V => Below wz.heap.size wz V) (by kernel_rfl) (Below.refl _ _).drew (fun hS => ?_)
      refine tkH (i := 0) (v := .pointer (some ⟨bi, 0, none⟩)) rfl ?_
      refine tcH (i := 1) (v := .int .i64 (W : Int)) rfl (by intro w' hSw; (try dsimp only at hSw); (obtain ⟨x0, x1, x2⟩ := (Vz.call hSw).cells); go_simp) ?_
      refine tkH (i := 2) (v := .pointer (some ⟨bi, 1, none⟩)) rfl ?_
      refine tcH (i := 3) (v := .int .i64 (H : Int)) rfl (by intro w' hSw; (try dsimp only at hSw); (obtain ⟨x0, x1, x2⟩ := (Vz.call hSw).cells); go_simp) ?_
      refine tkH (i := 4) (v := .int .i64 (j : Int)) rfl ?_
      refine tkH (i := 5) (v := .pointer (some ⟨bi, 0, none⟩)) rfl ?_
      refine tcH (i := 6) (v := .int .i64 (W : Int)) rfl (by intro w' hSw; (try dsimp only at hSw); (obtain ⟨x0, x1, x2⟩ := (Vz.call hSw).cells); go_simp) ?_
      refine tkH (i := 7) (v := .int .i64 (x : Int)) rfl ?_
      refine tkH (i := 8) (v := .int .i64 (j : Int)) rfl ?_
      refine tkH (i := 9) (v := .pointer (some ⟨bi, 0, none⟩)) rfl ?_
      refine tcH (i := 10) (v := .int .i64 (W : Int)) rfl (by intro w' hSw; (try dsimp only at hSw); (obtain ⟨x0, x1, x2⟩ := (Vz.call hSw).cells); go_simp) ?_
      refine tkH (i := 11) (v := .int .i64 (y : Int)) rfl ?_
      (try simp only [Act.put]); (try simp only [zPa]); (try simp only [zPb, zPc])
      refine wpAnyH_ready (rs := [12]) (by kernel_rfl) (by simp) ?_
      refine (AllReadyH.cons rfl (fun K hK => ?_) AllReadyH.nil)
      ·rw [if_pos (by kernel_rfl)]
       (try simp only [zGa]); (try simp only [zGb]); (try simp only [zGc])
       go_simp
       with_reducible refine (HP.out _).mono ?_
       rintro e W' ⟨rfl, hb⟩
       dsimp only
       refine hK.out _ _ (hS.trans (hb.mono hS.size)) (fun hS => ?_)
       clear hK
       (try simp only [Act.put]); (try simp only [zPa]); (try simp only [zPb, zPc])
       refine tkH (i := 13) (v := .int .i64 (p : Int)) rfl ?_
       go_simp
       refine wpAnyH_done (by kernel_rfl) ?_ _
       go_wp2_with fail
       go_meet
       case rel => exact ⟨rfl, Lib.hid hS⟩
     case rest =>
      obtain ⟨rfl, HB5⟩ := hcut
      have V5 := Vz.call HB5.out
      have hown5 := ownI_call hown HB5.out
      have B6 := belI_call Bz HB5.out
      obtain ⟨x0, x1, x2⟩ := V5.cells
      obtain ⟨Au, cu, hu⟩ := ownI_shape hown5
      subst hu
      have hsl : j + 1 ≤ maxLen := by unfold maxLen; omega
      have HH := Lib.hid (hasL_no (.slice Au j cu) (plcL W H j) p _ (RdI.of_own hown5) (by unfold plcL; rw [tabI_length]; omega) Hnew.out)
      go_wp2_with fail
      refine (HWC.out _).mono ?_
      rintro e w' ⟨rfl, rfl⟩
      go_wp2_with fail
      refine HH.out.mono ?_
      rintro e w' ⟨rfl, rfl⟩
      go_wp2_with (at_builtin; refine wpList_append_own _ rfl _ _ 26 rfl w0.heap.size 3 i0 (.int .i64 0) 1 8 Try.underlying26 hi hz0 hz1 hz2 rfl (by decide) _ _ _ rfl (hown5.alloc _) ⟨_, 0, none⟩ 1 1 _ rfl rfl (World.news_of_block (cs := #[.int .i64 p]) (fr := (0, 0)) (heap_alloc_new _ _)) (by intro u hu; simp at hu; subst hu; rfl) hsl (by omega) (by have := B6.size; simp; omega) ?_)
      intro v2 w7 hown7 hgr7 _
      have hlt7 := fun g hg => (hown5.lt g hg).1
      obtain ⟨gq, cq, hvq, _, _⟩ := hown7.form (by omega)
      subst hvq
      have ob := belI_box wc (.cells #[.int .i64 p] 3)
      have V6 := V5.call ob
      have hz0' := HZ0.out
      have V7 : ImV w.heap.size (bi + 1) bi W H (.slice A L.length c) L w7 := ⟨V6.at_.grown hgr7 (fun e => by have := hlt7 _ e.symm; have := V6.hb; omega), own_keepB V6.own (fun q hq => hgr7.block q (own_ltB V6.own q hq).2 (fun e => by have := hlt7 _ e.symm; have := (V6.hk q (by simpa using hq)).1; omega)), V6.lb, V6.hb, V6.hk, Nat.le_trans V6.hs hgr7.size⟩
      have B7 := (belI_call B6 ob).grown hgr7 (belI_call B6 ob).size (fun q e => hlt7 q e)
      have HS7 := Lib.hid (show ImV w.heap.size (bi + 1) bi W H (.slice A L.length c) L w7 ∧ w7.ownsRow w0.heap.size 3 1 (.slice (some ⟨gq, 0, none⟩) (j + 1) cq) (j + 1) (intCells (plcL W H (j + 1))) ∧ Below w0.heap.size w0 w7 from ⟨V7, by unfold plcL; rw [tabI_succ, intCells_append, ← Hp.out]; exact hown7, B7⟩)
      clear hown7 hgr7 V7 B7 V6 V5 hown5 hlt7 x0 x1 x2
      go_wp2_with fail
      go_roundg (N - (j + 1))
      case measure => omega
      case rel => exact ⟨j + 1, _, _, rfl, by omega, rfl, rfl, by go_num, HS7⟩
    ·obtain rfl : j = N := by omega
     go_wp2_with fail
     go_ret
     exact ⟨rfl, belI_call (by have h := HK0.out; rw [← HW0.out] at h; exact h) Bz⟩
end Go.Proofs.Ytokniebejilcbaa
