/- The contract of orientedPoint. No statement is proved here. -/
import Derived.Test.YtfolphadhmgbiaaMA
import Derived.Test.YtfolphadhmgbiaaImR
import Derived.Test.YtfolphadhmgbiaaOriC
import Derived.Test.YtfolphadhmgbiaaProg
import Derived.WalkKit
import Derived.ProofKit
import Derived.OpenShut
import Derived.WalkLawsBesides
import Derived.WalkSpells
import Derived.ShutString
import Derived.ChangeOld
import Derived.Below
import Derived.Lib.Hide
import Derived.Deep.MidRow
import Derived.Deep.WholeRow
import Derived.Maps.AppendAt
import Derived.BigQuiet
import Derived.Deep.QuietTactic
import Derived.Deep.OwnRows
import Derived.Handy
import Derived.Deep.Draws
import Derived.OwnWalk
import Derived.Deep.AppendLies
import Derived.Deep.LoopGhost
import Derived.Deep.Onto
import Derived.Laws.BitsAllLaws
import Derived.Lib.QuoteBits
import Derived.Deep.RegionHeld3
import Derived.Deep.DeepCutAuto
namespace Go.Proofs.Ytfolphadhmgbiaa
open Go.RowKit
theorem enterM (args : Array Value) (w : World) : (callFunc 168 args).run Try.prog w = .ok (.enter 168 args) w := by simp [go_sem]
theorem enterQ (args : Array Value) (w : World) : (callFunc 166 args).run Try.prog w = .ok (.enter 166 args) w := by simp [go_sem]
theorem repM (p : Pp) (o : Int) (ho : orOk o) (hp : p.ok) (w : World) : Calls Try.prog 165 #[.func (.func 168) #[] #[], .int .i64 (o / 4), .agg #[.int .i64 p.w, .int .i64 p.h, .int .i64 p.x, .int .i64 p.y]] w (PpAns (Pp.rep Pp.mir (o / 4).toNat p) w) := by
  obtain ⟨h1, h2⟩ := ho
  have h := repOI 168 Pp.mir enterM (fun p W h => mir_any p h W) (fun _ => Pp.mir_ok) (o / 4).toNat (by omega) p hp w
  rw [show (((o / 4).toNat : Nat) : Int) = o / 4 by omega] at h
  exact h
theorem repQ (p : Pp) (o : Int) (ho : orOk o) (hp : p.ok) (w : World) : Calls Try.prog 165 #[.func (.func 166) #[] #[], .int .i64 (o % 4), .agg #[.int .i64 p.w, .int .i64 p.h, .int .i64 p.x, .int .i64 p.y]] w (PpAns (Pp.rep Pp.qt (o % 4).toNat p) w) := by
  obtain ⟨h1, h2⟩ := ho
  have h := repOI 166 Pp.qt enterQ (fun p W h => qt_any p h W) (fun _ => Pp.qt_ok) (o % 4).toNat (by omega) p hp w
  rw [show (((o % 4).toNat : Nat) : Int) = o % 4 by omega] at h
  exact h
structure OpSt (w : World) (p : Pp) (W : World) : Prop where
  pt : BkAt W w.heap.size 152 #[.int .i64 p.w, .int .i64 p.h, .int .i64 p.x, .int .i64 p.y]
  bw : Below w.heap.size w W
theorem OpSt.drew {w : World} {p : Pp} {W : World} (h : OpSt w p W) : OpSt w p W.drew := ⟨h.pt, h.bw.drew⟩
theorem OpSt.call {w : World} {p : Pp} {W W' : World} (h : OpSt w p W) (hb : Below W.heap.size W W') : OpSt w p W' := ⟨h.pt.call hb, h.bw.trans (hb.mono h.bw.size)⟩
theorem OpSt.set {w : World} {p : Pp} {W W' : World} (h : OpSt w p W) (hg : W.grownBy W' (some (w.heap.size + 1))) : OpSt w p W' :=
  ⟨h.pt.grown hg (fun e => by injection e with e; omega), h.bw.grown hg h.bw.size (fun k hk => by injection hk with hk; omega)⟩
set_option maxHeartbeats 600000 in
set_option maxRecDepth 10000 in
theorem orPt_any (p : Pp) (o : Int) (ho : orOk o) (hp : p.ok) (w : World) : Calls Try.prog 127 #[.agg #[.int .i64 p.w, .int .i64 p.h, .int .i64 p.x, .int .i64 p.y], .int .i64 o] w (PpAns (Pp.ori o p) w) := by
  have hT : OpSt w p ((w.alloc (.cells #[.int .i64 p.w, .int .i64 p.h, .int .i64 p.x, .int .i64 p.y] 152)).alloc (.cells #[.int .i64 0, .int .i64 0, .int .i64 0, .int .i64 0] 152)) :=
    ⟨(BkAt.new _ _ _).alloc _, ((Below.refl _ _).alloc (Nat.le_refl _) _).alloc (by simp) _⟩
  have hR : BkAt ((w.alloc (.cells #[.int .i64 p.w, .int .i64 p.h, .int .i64 p.x, .int .i64 p.y] 152)).alloc (.cells #[.int .i64 0, .int .i64 0, .int .i64 0, .int .i64 0] 152)) (w.heap.size + 1) 152 #[.int .i64 0, .int .i64 0, .int .i64 0, .int .i64 0] := BkAt.newAt (by simp) _ _
  have hq : (Pp.rep Pp.mir (o / 4).toNat p).ok := Pp.rep_ok (fun _ => Pp.mir_ok) _ hp
  have Hq := Lib.hid hq
  have Ho := Lib.hid ho
  have Hp := Lib.hid hp
  clear hq ho hp
  go_enter Try.func127, Try.ntmps127
  go_upto_region 1 with fail
  refine wp_region_held_drew (S := fun V => OpSt w p V) (by kernel_rfl) hT.drew (fun hS => ?_)
  replace hR := hR.drew
  refine wpAnyH_take (i := 0) (v := .int .i64 o) rfl (by kernel_rfl) (by kernel_rfl) (by kernel_rfl) (fun _ _ _ h => h) (Or.inl ⟨by kernel_rfl, by intro w' hSw; (try dsimp only at hSw); (obtain ⟨c0, c1, c2, c3⟩ := hSw.pt.cells4); go_simp⟩) (by assumption) ?_
  refine wpAnyH_take (i := 2) (v := .int .i64 o) rfl (by kernel_rfl) (by kernel_rfl) (by kernel_rfl) (fun _ _ _ h => h) (Or.inl ⟨by kernel_rfl, by intro w' hSw; (try dsimp only at hSw); (obtain ⟨c0, c1, c2, c3⟩ := hSw.pt.cells4); go_simp⟩) (by assumption) ?_
  refine wpAnyH_take (i := 4) (v := .agg #[.int .i64 p.w, .int .i64 p.h, .int .i64 p.x, .int .i64 p.y]) rfl (by kernel_rfl) (by kernel_rfl) (by kernel_rfl) (fun _ _ _ h => h) (Or.inl ⟨by kernel_rfl, by intro w' hSw; (try dsimp only at hSw); (obtain ⟨c0, c1, c2, c3⟩ := hSw.pt.cells4); go_simp⟩) (by assumption) ?_
  (try simp only [Act.put]); (try simp only [List.setIfInBounds_toArray]); (try simp only [List.set_cons_zero, List.set_cons_succ])
  refine wpAnyH_ready (rs := [1]) (by kernel_rfl) (by simp) ?_
  refine (AllReadyH.cons rfl (fun K hK => ?_) AllReadyH.nil)
  · rw [if_pos (by kernel_rfl)]
    (try simp only [List.getElem_toArray]); (try simp only [List.getElem_cons_succ]); (try simp only [List.getElem_cons_zero])
    go_simp
    with_reducible refine (turns_any o Ho.out _).mono ?_
    rintro e W' ⟨rfl, rfl⟩
    dsimp only
    skip
    refine hK.out _ _ (hS) (fun hS => ?_)
    clear hK
    (try simp only [Act.put]); (try simp only [List.setIfInBounds_toArray]); (try simp only [List.set_cons_zero, List.set_cons_succ])
    refine wpAnyH_ready (rs := [3]) (by kernel_rfl) (by simp) ?_
    refine (AllReadyH.cons rfl (fun K hK => ?_) AllReadyH.nil)
    · rw [if_pos (by kernel_rfl)]
      (try simp only [List.getElem_toArray]); (try simp only [List.getElem_cons_succ]); (try simp only [List.getElem_cons_zero])
      go_simp
      with_reducible refine (mirrors_any o Ho.out _).mono ?_
      rintro e W' ⟨rfl, rfl⟩
      dsimp only
      skip
      refine hK.out _ _ (hS) (fun hS => ?_)
      clear hK
      (try simp only [Act.put]); (try simp only [List.setIfInBounds_toArray]); (try simp only [List.set_cons_zero, List.set_cons_succ])
      refine wpAnyH_ready (rs := [5]) (by kernel_rfl) (by simp) ?_
      refine (AllReadyH.cons rfl (fun K hK => ?_) AllReadyH.nil)
      · rw [if_pos (by kernel_rfl)]
        (try simp only [List.getElem_toArray]); (try simp only [List.getElem_cons_succ]); (try simp only [List.getElem_cons_zero])
        go_simp
        with_reducible refine (repM p o Ho.out Hp.out _).mono ?_
        rintro e W' ⟨rfl, hb⟩
        dsimp only
        have hR := hR.call hb
        refine hK.out _ _ (hS.call hb) (fun hS => ?_)
        clear hK
        (try simp only [Act.put]); (try simp only [List.setIfInBounds_toArray]); (try simp only [List.set_cons_zero, List.set_cons_succ])
        refine wpAnyH_ready (rs := [6]) (by kernel_rfl) (by simp) ?_
        refine (AllReadyH.cons rfl (fun K hK => ?_) AllReadyH.nil)
        · rw [if_pos (by kernel_rfl)]
          (try simp only [List.getElem_toArray]); (try simp only [List.getElem_cons_succ]); (try simp only [List.getElem_cons_zero])
          go_simp
          with_reducible refine (repQ (Pp.rep Pp.mir (o / 4).toNat p) o Ho.out Hq.out _).mono ?_
          rintro e W' ⟨rfl, hb⟩
          dsimp only
          have hR := hR.call hb
          refine hK.out _ _ (hS.call hb) (fun hS => ?_)
          clear hK
          (try simp only [Act.put]); (try simp only [List.setIfInBounds_toArray]); (try simp only [List.set_cons_zero, List.set_cons_succ])
          refine wpAnyH_ready (rs := [7]) (by kernel_rfl) (by simp) ?_
          refine (AllReadyH.cons rfl (fun K hK => ?_) AllReadyH.nil)
          · rw [if_pos (by kernel_rfl)]
            (try simp only [List.getElem_toArray]); (try simp only [List.getElem_cons_succ]); (try simp only [List.getElem_cons_zero])
            refine wp_store_bk 152 (.tmp 4) (.tmp 11) rfl (w.heap.size + 1) 152 _ #[.int .i64 (Pp.ori o p).w, .int .i64 (Pp.ori o p).h, .int .i64 (Pp.ori o p).x, .int .i64 (Pp.ori o p).y] (by kernel_rfl) (by rfl) (by simp [Value.oneCell']) rfl (by first | with_reducible rfl | (go_simp; done) | rfl) hR ?_
            intro W3 IB hgB
            skip
            refine hK.out _ _ (hS.set hgB) (fun hS => ?_)
            clear hK
            (try simp only [Act.put]); (try simp only [List.setIfInBounds_toArray]); (try simp only [List.set_cons_zero, List.set_cons_succ])
            refine wpAnyH_done (by kernel_rfl) ?_ _
            obtain ⟨z0, z1, z2, z3⟩ := IB.cells4
            go_wp2_with fail
            exact bodyPost_ret (v := .agg #[.int .i64 (Pp.ori o p).w, .int .i64 (Pp.ori o p).h, .int .i64 (Pp.ori o p).x, .int .i64 (Pp.ori o p).y]) (by simp [results, Try.results127, go_sem, z0, z1, z2, z3]) rfl ⟨rfl, hS.bw⟩
end Go.Proofs.Ytfolphadhmgbiaa
