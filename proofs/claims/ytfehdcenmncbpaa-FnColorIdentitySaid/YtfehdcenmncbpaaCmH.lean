/- The contract of spec.DrawColor. No statement is proved here. -/
import Derived.Test.YtfehdcenmncbpaaBase
import Derived.Test.YtfehdcenmncbpaaRd
import Derived.Test.YtfehdcenmncbpaaIntR
import Derived.Test.YtfehdcenmncbpaaImR
import Derived.Test.YtfehdcenmncbpaaPixM
import Derived.Test.YtfehdcenmncbpaaPixA
import Derived.Test.YtfehdcenmncbpaaColM
import Derived.Test.YtfehdcenmncbpaaImV
import Derived.Test.YtfehdcenmncbpaaBk
import Derived.Test.YtfehdcenmncbpaaCmB
import Derived.Test.YtfehdcenmncbpaaBlk4
import Derived.Test.YtfehdcenmncbpaaHasC
import Derived.Test.YtfehdcenmncbpaaRectEq
import Derived.Test.YtfehdcenmncbpaaRds
import Derived.Test.YtfehdcenmncbpaaCmP
import Derived.Test.YtfehdcenmncbpaaCmQ
import Derived.Test.YtfehdcenmncbpaaFilB
import Derived.Test.YtfehdcenmncbpaaCrpB
import Derived.Test.YtfehdcenmncbpaaLaw
import Derived.Test.YtfehdcenmncbpaaSclB
import Derived.Test.YtfehdcenmncbpaaCurC
import Derived.Test.YtfehdcenmncbpaaPixD
import Derived.Test.YtfehdcenmncbpaaCmD
import Derived.Test.YtfehdcenmncbpaaProg
import Derived.WalkKit
import Derived.ProofKit
import Derived.OpenShut
import Derived.WalkLawsBesides
import Derived.WalkSpells
import Derived.ShutString
import Derived.ChangeOld
import Derived.Below
import Derived.Lib.Hide
import Derived.BigQuiet
import Derived.Deep.QuietTactic
import Derived.Maps.AppendAt
import Derived.Deep.OwnRows
import Derived.Handy
import Derived.Deep.Draws
import Derived.OwnWalk
import Derived.Deep.AppendLies
import Derived.Deep.LoopGhost
import Derived.Deep.Onto
import Derived.Laws.BitsAllLaws
import Derived.Lib.QuoteBits
import Derived.Test.YtfehdcenmncbpaaShelf
import Derived.Laws.CopyOwn
import Derived.Deep.RegionLaw
import Derived.Deep.RegionHeld3
import Derived.Deep.DeepCutAuto
import Derived.Great.BuildSlice
import Derived.Deep.MidRow
import Derived.Deep.WholeRow
import Derived.Laws.AppendOwn
import Derived.ChangeKeysEq
namespace Go.Proofs.Ytfehdcenmncbpaa
open Go.RowKit
theorem own_otherD {W W' : World} {lo : Nat} {x : Value} {n : Nat} {xs : List Value} {row : Option Nat} (h : W.ownsRow lo 3 1 x n xs) (hg : W.grownBy W' row) (hx : ∀ k, x.ownBlock = some k → row ≠ some k) : W'.ownsRow lo 3 1 x n xs := by
  refine h.kept hg ?_
  by_cases hv : x.ownBlock = none
  · exact .inl hv
  · obtain ⟨k, hk⟩ := Option.ne_none_iff_exists'.1 hv
    exact .inr fun e => hx k hk (by rw [← e, hk])
theorem rowC_call {k : IntKind} {w w' : World} {a : Option Addr} {len cap : Nat} {zs : List Int} (h : IsRow k w a len cap zs) (hb : Below w.heap.size w w') : IsRow k w' a len cap zs := by
  rcases h with h | ⟨x, e, h1, h2, h3, h4, h5⟩
  · exact .inl h
  · refine .inr ⟨x, e, h1, h2, h3, fun i hi => ?_, h5⟩
    have hc := h4 i hi
    rw [← hc]
    exact World.cell?_of_block (hb.block _ (World.block_lt_of_cell? w _ hc))
/-- What DrawColor answers: a valid map with an ascending curve, and two pixels. -/
def DrawnCol (w : World) (e : Ending) (w' : World) : Prop :=
  ∃ (u v : Value) (M C : List Int) (p q : Int), e = .returned (.tuple #[.agg #[u, v], .int .i64 p, .int .i64 q]) ∧ colOk M C ∧ ascC C ∧ pixOk p ∧ pixOk q ∧ w'.ownsRow w.heap.size 3 1 u M.length (intCells M) ∧ w'.ownsRow w.heap.size 3 1 v C.length (intCells C) ∧ Below w.heap.size w w'
/-- What DrawColor keeps in memory: the map's box, its rows, the cursor. -/
structure DcR (w : World) (g b : Nat) (u v : Value) (M C : List Int) (W : World) : Prop where
  bk : BkAt W b 26 #[u, v]
  o1 : W.ownsRow (w.heap.size + 1) 3 1 u M.length (intCells M)
  o2 : W.ownsRow (w.heap.size + 1) 3 1 v C.length (intCells C)
  bw : Below w.heap.size w W
  gg : w.heap.size < g
  lb : g < b
  n1 : ∀ k, u.ownBlock = some k → g < k
  n2 : ∀ k, v.ownBlock = some k → g < k
section
variable {w : World} {g b : Nat} {u v : Value} {M C : List Int} {W W' : World}
theorem DcR.call (h : DcR w g b u v M C W) (hb : Below W.heap.size W W') : DcR w g b u v M C W' := ⟨h.bk.call hb, ownI_call h.o1 hb, ownI_call h.o2 hb, belI_call h.bw hb, h.gg, h.lb, h.n1, h.n2⟩
theorem DcR.drew (h : DcR w g b u v M C W) : DcR w g b u v M C W.drew := h.call (belI_drew _)
theorem DcR.turn (h : DcR w g b u v M C W) (hg : W.grownBy W' (some g)) : DcR w g b u v M C W' :=
  ⟨h.bk.grown hg (fun e => by injection e with e; have := h.lb; omega), own_otherD h.o1 hg (fun k hk e => by injection e with e; have := h.n1 k hk; omega), own_otherD h.o2 hg (fun k hk e => by injection e with e; have := h.n2 k hk; omega), h.bw.grown hg h.bw.size (fun k hk => by injection hk with hk; have := h.gg; omega), h.gg, h.lb, h.n1, h.n2⟩
theorem DcR.set (h : DcR w g b u v M C W) (hg : W.grownBy W' (some w.heap.size)) : DcR w g b u v M C W' :=
  ⟨h.bk.grown hg (fun e => by injection e with e; have := h.lb; have := h.gg; omega), own_otherD h.o1 hg (fun k hk e => by injection e with e; have := h.n1 k hk; have := h.gg; omega), own_otherD h.o2 hg (fun k hk e => by injection e with e; have := h.n2 k hk; have := h.gg; omega), h.bw.grown hg h.bw.size (fun k hk => by injection hk with hk; omega), h.gg, h.lb, h.n1, h.n2⟩
theorem DcR.ends {p q : Int} (h : DcR w g b u v M C W) (ho : colOk M C) (ha : ascC C) (hp : pixOk p) (hq : pixOk q) : DrawnCol w (.returned (.tuple #[.agg #[u, v], .int .i64 p, .int .i64 q])) W :=
  ⟨u, v, M, C, p, q, rfl, ho, ha, hp, hq, h.o1.mono (by omega), h.o2.mono (by omega), h.bw⟩
end
set_option maxHeartbeats 1000000 in
set_option maxRecDepth 10000 in
theorem drawCol_any (w : World) (A : Option Addr) (len cap : Nat) (zs : List Int) (hrow : IsRow .u8 w A len cap zs) :
    Calls Try.prog 16 #[.slice A len cap] w (DrawnCol w) := by
  have K0 := belI_box w (.cells #[.slice none 0 0, .slice none 0 0] 26)
  have hR : BkAt (w.alloc (.cells #[.slice none 0 0, .slice none 0 0] 26)) w.heap.size 26 #[.slice none 0 0, .slice none 0 0] := BkAt.new _ _ _
  have hrow2 := rowC_call hrow K0
  have hsz : (w.alloc (.cells #[.slice none 0 0, .slice none 0 0] 26)).heap.size = w.heap.size + 1 := by simp
  clear hrow
  go_enter Try.func16, Try.ntmps16
  go_wp2_with fail
  refine (new_any _ _ _ _ zs hrow2).mono ?_
  rintro e w1 ⟨g, rfl, hg, hc1, hb1⟩
  rw [hsz] at hg
  replace hR := hR.call hb1
  have K := belI_call K0 hb1
  have hgl := hc1.lt
  clear hrow2 K0 hb1 hsz
  have HR := Lib.hid hR
  have HK := Lib.hid K
  clear hR K
  go_wp2_with fail
  refine (l08Map_any _ _ hc1).mono ?_
  rintro e w2 ⟨u, v, M, C, rfl, hok, hasc, h1, h2, hc2, hg2⟩
  obtain ⟨Au, cu, hu⟩ := ownI_shape h1
  obtain ⟨Av, cv, hv⟩ := ownI_shape h2
  subst hu
  subst hv
  obtain ⟨b, hb⟩ : ∃ b, b = w2.heap.size := ⟨_, rfl⟩
  have hR2 := HR.out.grown hg2 (fun e => by injection e with e; omega)
  have l1 := fun k hk => (h1.lt k hk).1
  have l2 := fun k hk => (h2.lt k hk).1
  have hs := HR.out.lt
  have hs2 := hg2.size
  have hT : DcR w g b (.slice Au M.length cu) (.slice Av C.length cv) M C (w2.alloc (.cells #[.slice Au M.length cu, .slice Av C.length cv] 26)) := ⟨BkAt.newAt hb.symm _ _, (h1.mono (by omega)).alloc _, (h2.mono (by omega)).alloc _, belI_call (HK.out.grown hg2 HK.out.size (fun k hk => by injection hk with hk; omega)) (belI_box _ _), by omega, by omega, fun k hk => by have := l1 k hk; omega, fun k hk => by have := l2 k hk; omega⟩
  have HM := Lib.hid (show colOk M C ∧ ascC C from ⟨hok, hasc⟩)
  have HT := Lib.hid hT
  have HR2 := Lib.hid (hR2.alloc (.cells #[.slice Au M.length cu, .slice Av C.length cv] 26))
  have HBB := Lib.hid hb
  have HC2 := Lib.hid (hc2.alloc (.cells #[.slice Au M.length cu, .slice Av C.length cv] 26))
  clear hok hasc h1 h2 hc2 hg2 hb hR2 l1 l2 hs hs2 hT HR HK hc1 hgl
  go_wp2_with fail
  rw [← HBB.out]
  refine (l04Draw_any _ _ HC2.out).mono ?_
  rintro e w3 ⟨p, rfl, hp, hc3, hg3⟩
  have Hp := Lib.hid hp
  have hT := HT.out.turn hg3
  have hR := HR2.out.grown hg3 (fun e => by injection e with e; omega)
  clear hp hg3 HT HR2 HC2
  go_upto_region 4 with fail
  refine wp_region_held_drew (S := fun V => DcR w g b (.slice Au M.length cu) (.slice Av C.length cv) M C V) (by kernel_rfl) hT.drew (fun hS => ?_)
  have GB := hR.drew
  have hcur := hc3.drew
  refine wpAnyH_take (i := 0) (v := .agg #[.slice Au M.length cu, .slice Av C.length cv]) rfl (by kernel_rfl) (by kernel_rfl) (by kernel_rfl) (fun _ _ _ h => h) (Or.inl ⟨by kernel_rfl, by intro w' hSw; (try dsimp only at hSw); (have a0 := hSw.bk.cell 0 rfl); (have a1 := hSw.bk.cell 1 rfl); go_simp⟩) (by assumption) ?_
  refine wpAnyH_take (i := 1) (v := .int .i64 p) rfl (by kernel_rfl) (by kernel_rfl) (by kernel_rfl) (fun _ _ _ h => h) (Or.inl ⟨by kernel_rfl, by intro w' hSw; (try dsimp only at hSw); (have a0 := hSw.bk.cell 0 rfl); (have a1 := hSw.bk.cell 1 rfl); go_simp⟩) (by assumption) ?_
  refine wpAnyH_take (i := 2) (v := .pointer (some ⟨g, 0, none⟩)) rfl (by kernel_rfl) (by kernel_rfl) (by kernel_rfl) (fun _ _ _ h => h) (Or.inl ⟨by kernel_rfl, by intro w' hSw; (try dsimp only at hSw); (have a0 := hSw.bk.cell 0 rfl); (have a1 := hSw.bk.cell 1 rfl); go_simp⟩) (by assumption) ?_
  (try simp only [Act.put]); (try simp only [List.setIfInBounds_toArray]); (try simp only [List.set_cons_zero, List.set_cons_succ])
  refine wpAnyH_ready (rs := [3]) (by kernel_rfl) (by simp) ?_
  refine (AllReadyH.cons rfl (fun K hK => ?_) AllReadyH.nil)
  · rw [if_pos (by kernel_rfl)]
    (try simp only [List.getElem_toArray]); (try simp only [List.getElem_cons_succ]); (try simp only [List.getElem_cons_zero])
    go_simp
    with_reducible refine (l04Draw_any _ _ hcur).mono ?_
    rintro e W' ⟨q, rfl, hq, hc2, hg2⟩
    dsimp only
    replace GB := GB.grown hg2 (fun e => by injection e with e; have := hS.gg; omega)
    replace hcur := hc2
    refine hK.out _ _ (hS.turn hg2) (fun hS => ?_)
    clear hK
    (try simp only [Act.put]); (try simp only [List.setIfInBounds_toArray]); (try simp only [List.set_cons_zero, List.set_cons_succ])
    refine wpAnyH_ready (rs := [4]) (by kernel_rfl) (by simp) ?_
    refine (AllReadyH.cons rfl (fun K hK => ?_) AllReadyH.nil)
    · rw [if_pos (by kernel_rfl)]
      (try simp only [List.getElem_toArray]); (try simp only [List.getElem_cons_succ]); (try simp only [List.getElem_cons_zero])
      refine wp_store_bk 26 (.tmp 2) (.tmp 14) rfl w.heap.size _ #[.slice none 0 0, .slice none 0 0] #[.slice Au M.length cu, .slice Av C.length cv] (by kernel_rfl) rfl (by simp [Value.oneCell']) rfl (by first | with_reducible rfl | (go_simp; done) | rfl) GB ?_
      intro W3 IB hgB
      skip
      skip
      refine hK.out _ _ (hS.set hgB) (fun hS => ?_)
      clear hK
      (try simp only [Act.put]); (try simp only [List.setIfInBounds_toArray]); (try simp only [List.set_cons_zero, List.set_cons_succ])
      refine wpAnyH_take (i := 5) (v := .int .i64 p) rfl (by kernel_rfl) (by kernel_rfl) (by kernel_rfl) (fun _ _ _ h => h) (Or.inl ⟨by kernel_rfl, by intro w' hSw; (try dsimp only at hSw); (have a0 := hSw.bk.cell 0 rfl); (have a1 := hSw.bk.cell 1 rfl); go_simp⟩) (by assumption) ?_
      refine wpAnyH_take (i := 6) (v := .int .i64 q) rfl (by kernel_rfl) (by kernel_rfl) (by kernel_rfl) (fun _ _ _ h => h) (Or.inl ⟨by kernel_rfl, by intro w' hSw; (try dsimp only at hSw); (have a0 := hSw.bk.cell 0 rfl); (have a1 := hSw.bk.cell 1 rfl); go_simp⟩) (by assumption) ?_
      refine wpAnyH_done (by kernel_rfl) ?_ _
      have s0 := IB.cell 0 rfl
      have s1 := IB.cell 1 rfl
      have HSS := Lib.hid hS
      clear hS
      go_wp2_with fail
      exact bodyPost_ret (v := .tuple #[.agg #[.slice Au M.length cu, .slice Av C.length cv], .int .i64 p, .int .i64 q]) (by simp [results, Try.results16, go_sem, s0, s1]) rfl (HSS.out.ends HM.out.1 HM.out.2 Hp.out hq)
end Go.Proofs.Ytfehdcenmncbpaa
