/- The contracts of the small functions of orientations. No statement is proved here. -/
import Derived.Test.YtfolphadhmgbiaaMA
import Derived.Test.YtfolphadhmgbiaaImR
import Derived.Test.YtfolphadhmgbiaaProg
import Derived.WalkKit
import Derived.ProofKit
import Derived.OpenShut
import Derived.WalkLawsBesides
import Derived.WalkSpells
import Derived.ShutString
import Derived.ChangeOld
import Derived.Below
import Derived.Lib.Hide
import Derived.Deep.MidRow
import Derived.Deep.WholeRow
import Derived.Maps.AppendAt
import Derived.BigQuiet
import Derived.Deep.QuietTactic
import Derived.Deep.OwnRows
import Derived.Handy
import Derived.Deep.Draws
import Derived.OwnWalk
import Derived.Deep.AppendLies
import Derived.Deep.LoopGhost
import Derived.Deep.Onto
import Derived.Laws.BitsAllLaws
import Derived.Lib.QuoteBits
import Derived.Deep.RegionHeld3
import Derived.Deep.DeepCutAuto
namespace Go.Proofs.Ytfolphadhmgbiaa
open Go.RowKit
theorem isOrI_yes (o : Int) (h : orOk o) (w : World) : Calls Try.prog 114 #[.int .i64 o] w fun e w' => e = .returned (.bool true) ∧ w = w' := by
  obtain ⟨h1, h2⟩ := h
  go_enter Try.func114, Try.ntmps114
  go_wp2_with ((go_at_call 100; (with_reducible refine (inI_yes _ _ _ _ (by omega) (by omega)).mono ?_); rintro e w' ⟨rfl, rfl⟩))
  go_ret
  exact ⟨rfl, rfl⟩
theorem isOrI_no (o : Int) (h : ¬ orOk o) (w : World) : Calls Try.prog 114 #[.int .i64 o] w fun e w' => e = .returned (.bool false) ∧ w = w' := by
  have h7 : o < 0 ∨ 7 < o := by unfold orOk at h; omega
  have H7 := Lib.hid h7
  clear h7 h
  go_enter Try.func114, Try.ntmps114
  go_wp2_with ((go_at_call 100; (with_reducible refine (inI_no _ _ _ _ H7.out).mono ?_); rintro e w' ⟨rfl, rfl⟩))
  go_ret
  exact ⟨rfl, rfl⟩
theorem turns_any (o : Int) (h : orOk o) (w : World) : Calls Try.prog 167 #[.int .i64 o] w fun e w' => e = .returned (.int .i64 (o % 4)) ∧ w = w' := by
  obtain ⟨h1, h2⟩ := h
  go_enter Try.func167, Try.ntmps167
  go_wp2
  go_ret
  exact ⟨ret_int (by omega), rfl⟩
theorem mirrors_any (o : Int) (h : orOk o) (w : World) : Calls Try.prog 169 #[.int .i64 o] w fun e w' => e = .returned (.int .i64 (o / 4)) ∧ w = w' := by
  obtain ⟨h1, h2⟩ := h
  go_enter Try.func169, Try.ntmps169
  go_wp2
  go_ret
  exact ⟨ret_int (by omega), rfl⟩
def PpAns (p : Pp) (w : World) (e : Ending) (w' : World) : Prop := e = .returned (.agg #[.int .i64 p.w, .int .i64 p.h, .int .i64 p.x, .int .i64 p.y]) ∧ Below w.heap.size w w'
theorem mir_any (p : Pp) (h : p.ok) (w : World) : Calls Try.prog 168 #[.agg #[.int .i64 p.w, .int .i64 p.h, .int .i64 p.x, .int .i64 p.y]] w (PpAns p.mir w) := by
  obtain ⟨h1, h2, h3, h4, h5, h6, h7, h8⟩ := h
  obtain ⟨a, b, c, d⟩ := p
  dsimp only at *
  go_enter Try.func168, Try.ntmps168
  go_wp2_with fail
  exact bodyPost_ret (v := .agg #[.int .i64 a, .int .i64 b, .int .i64 (a - 1 - c), .int .i64 d]) (by simp [results, Try.results168, go_sem]) rfl ⟨rfl, by
      repeat first | exact Below.refl _ _ | refine Below.setCell ?_ (by first | (simp; done) | (simp; omega)) _ | refine Below.alloc ?_ (by first | (simp; done) | (simp; omega)) _⟩
theorem qt_any (p : Pp) (h : p.ok) (w : World) : Calls Try.prog 166 #[.agg #[.int .i64 p.w, .int .i64 p.h, .int .i64 p.x, .int .i64 p.y]] w (PpAns p.qt w) := by
  obtain ⟨h1, h2, h3, h4, h5, h6, h7, h8⟩ := h
  obtain ⟨a, b, c, d⟩ := p
  dsimp only at *
  go_enter Try.func166, Try.ntmps166
  go_wp2_with fail
  exact bodyPost_ret (v := .agg #[.int .i64 b, .int .i64 a, .int .i64 (b - 1 - d), .int .i64 c]) (by simp [results, Try.results166, go_sem]) rfl ⟨rfl, by
      repeat first | exact Below.refl _ _ | refine Below.setCell ?_ (by first | (simp; done) | (simp; omega)) _ | refine Below.alloc ?_ (by first | (simp; done) | (simp; omega)) _⟩
/-- What repeated keeps: the point in its parameter's block, the answer's block. -/
structure RpSt (w : World) (p : Pp) (W : World) : Prop where
  pt : BkAt W w.heap.size 152 #[.int .i64 p.w, .int .i64 p.h, .int .i64 p.x, .int .i64 p.y]
  rs : BkAt W (w.heap.size + 1) 152 #[.int .i64 0, .int .i64 0, .int .i64 0, .int .i64 0]
  bw : Below w.heap.size w W
theorem RpSt.call {w : World} {p : Pp} {W W' : World} (h : RpSt w p W) (hb : Below W.heap.size W W') : RpSt w p W' :=
  ⟨h.pt.call hb, h.rs.call hb, h.bw.trans (hb.mono h.bw.size)⟩
theorem RpSt.set {w : World} {p : Pp} {W : World} (h : RpSt w p W) (q : Pp) :
    RpSt w q ((((W.setCell ⟨w.heap.size, 0, none⟩ (.int .i64 q.w)).setCell ⟨w.heap.size, 1, none⟩ (.int .i64 q.h)).setCell ⟨w.heap.size, 2, none⟩ (.int .i64 q.x)).setCell ⟨w.heap.size, 3, none⟩ (.int .i64 q.y)) :=
  ⟨h.pt.all4 _ _ _ _, (((h.rs.far (by simp) _).far (by simp) _).far (by simp) _).far (by simp) _, (((h.bw.setCell (by simp) _).setCell (by simp) _).setCell (by simp) _).setCell (by simp) _⟩
set_option maxHeartbeats 600000 in
theorem repOI (fid : Nat) (f : Pp → Pp) (HE : ∀ args w, (callFunc fid args).run Try.prog w = .ok (.enter fid args) w)
    (HK : ∀ (p : Pp) W, p.ok → Calls Try.prog fid #[.agg #[.int .i64 p.w, .int .i64 p.h, .int .i64 p.x, .int .i64 p.y]] W (PpAns (f p) W)) (hf : ∀ p : Pp, p.ok → (f p).ok) (n : Nat) (hn : n ≤ 3) (p : Pp) (hp : p.ok) (w : World) :
    Calls Try.prog 165 #[.func (.func fid) #[] #[], .int .i64 n, .agg #[.int .i64 p.w, .int .i64 p.h, .int .i64 p.x, .int .i64 p.y]] w (PpAns (Pp.rep f n p) w) := by
  have hS : RpSt w p ((w.alloc (.cells #[.int .i64 p.w, .int .i64 p.h, .int .i64 p.x, .int .i64 p.y] 152)).alloc (.cells #[.int .i64 0, .int .i64 0, .int .i64 0, .int .i64 0] 152)) :=
    ⟨(BkAt.new _ _ _).alloc _, BkAt.newAt (by simp) _ _, ((Below.refl _ _).alloc (Nat.le_refl _) _).alloc (by simp) _⟩
  have HS := Lib.hid hS
  have HK := Lib.hid HK
  have Hp := Lib.hid hp
  have Hf := Lib.hid hf
  clear hS hp hf
  go_enter Try.func165, Try.ntmps165
  go_wp2_with fail
  go_loopw [8] (fun i wr => ∃ k : Nat, k ≤ n ∧ i = .int .i64 k ∧ Hid (RpSt w (Pp.rep f k p) wr)) (fun i _ => n - (intOf i).toNat)
  case atStart => exact ⟨0, Nat.zero_le _, rfl, HS⟩
  case round =>
    clear HS
    obtain ⟨k, hk, rfl, HS⟩ := hrel
    have hS := HS.out
    obtain ⟨c0, c1, c2, c3⟩ := hS.pt.cells4
    obtain ⟨r0, r1, r2, r3⟩ := hS.rs.cells4
    clear hS
    by_cases hlt : k < n
    · have k1 : (k : Int) < (n : Int) := by omega
      have k0 : (0 : Int) ≤ (k : Int) := by omega
      go_wp2_with fail
      refine (HK.out _ _ (Pp.rep_ok Hf.out k Hp.out)).mono ?_
      rintro e w1 ⟨rfl, hb⟩
      have hS := HS.out.call hb
      have f0 := hS.pt.frozen 0
      have f1 := hS.pt.frozen 1
      have f2 := hS.pt.frozen 2
      have f3 := hS.pt.frozen 3
      clear c0 c1 c2 c3 r0 r1 r2 r3
      obtain ⟨c0, c1, c2, c3⟩ := hS.pt.cells4
      have HT := Lib.hid (hS.set (f (Pp.rep f k p)))
      clear hS hb
      go_wp2_with fail
      go_roundw
      case rel => exact ⟨k + 1, by omega, by go_num, HT⟩
      case measure => simp [intOf]; omega
    · obtain rfl : k = n := by omega
      have f0 := HS.out.rs.frozen 0
      have f1 := HS.out.rs.frozen 1
      have f2 := HS.out.rs.frozen 2
      have f3 := HS.out.rs.frozen 3
      go_wp2_with fail
      obtain ⟨z0, z1, z2, z3⟩ := (HS.out.rs.all4 (.int .i64 (Pp.rep f k p).w) (.int .i64 (Pp.rep f k p).h) (.int .i64 (Pp.rep f k p).x) (.int .i64 (Pp.rep f k p).y)).cells4
      exact bodyPost_ret (v := .agg #[.int .i64 (Pp.rep f k p).w, .int .i64 (Pp.rep f k p).h, .int .i64 (Pp.rep f k p).x, .int .i64 (Pp.rep f k p).y]) (by simp [results, Try.results165, go_sem, z0, z1, z2, z3]) rfl
        ⟨rfl, (((HS.out.bw.setCell (by simp) _).setCell (by simp) _).setCell (by simp) _).setCell (by simp) _⟩
end Go.Proofs.Ytfolphadhmgbiaa
