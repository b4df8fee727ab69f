/- Texts of mine in one file: CpyB, SameIm, PlW, OcI, OcJ, OcK, DmK, SsM. No statement is proved here. -/
import Derived.Test.YtnndifemkichmaaGreatMA
import Derived.Test.YtnndifemkichmaaGreatMB
import Derived.Test.YtnndifemkichmaaGreatMAv1
import Derived.Test.YtnndifemkichmaaGreatProg
import Derived.WalkKit
import Derived.ProofKit
import Derived.OpenShut
import Derived.WalkLawsBesides
import Derived.WalkSpells
import Derived.ShutString
import Derived.ChangeOld
import Derived.Below
import Derived.Lib.Hide
import Derived.BigQuiet
import Derived.Deep.QuietTactic
import Derived.Maps.AppendAt
import Derived.Deep.OwnRows
import Derived.Handy
import Derived.Deep.Draws
import Derived.OwnWalk
import Derived.Deep.AppendLies
import Derived.Deep.LoopGhost
import Derived.Deep.Onto
import Derived.Laws.BitsAllLaws
import Derived.Lib.QuoteBits
import Derived.Test.YtnndifemkichmaaGreatShelf
import Derived.Laws.CopyOwn
import Derived.Deep.RegionLaw
import Derived.Deep.RegionHeld3
import Derived.Deep.DeepCutAuto
import Derived.Great.BuildSlice
import Derived.Deep.MidRow
import Derived.Deep.WholeRow
import Derived.Laws.AppendOwn
import Derived.Shelf.RegionOpenPlain
import Derived.Lib.SliceRun
import Derived.Deep.RegionWith
import Derived.ChangeKeysEq
import Derived.Deep.DeepAppendRoom
import Derived.Maps.RangeWalk
import Derived.Maps.OwnOps
namespace Go.Proofs.YtnndifemkichmaaGreat
open Go.RowKit
theorem GrAt.grownI {w w' : World} {b : Nat} {t : TypeId} {g : Nat → Bool} {row : Option Nat} (h : GrAt w b t g) (hb : w.grownBy w' row) (hr : some b ≠ row) : GrAt w' b t g := (hb.block b h.lt hr).trans h
end Go.Proofs.YtnndifemkichmaaGreat
namespace Go.Proofs.YtnndifemkichmaaGreat
open Go.RowKit
open Classical in
noncomputable def imEq (L M : List Int) : Bool := decide (L = M)
theorem imEq_yes (L : List Int) : imEq L L = true := by unfold imEq; exact decide_eq_true rfl
theorem imEq_no {L M : List Int} (h : L ≠ M) : imEq L M = false := by unfold imEq; exact decide_eq_false h
open Classical in
noncomputable def sameM (X Y : Int) (L : List Int) (X2 Y2 : Int) (M : List Int) : Bool := decide (X = X2 ∧ Y = Y2 ∧ L = M)
theorem sameM_yes (X Y : Int) (L : List Int) : sameM X Y L X Y L = true := by unfold sameM; exact decide_eq_true ⟨rfl, rfl, rfl⟩
theorem sameM_no {X Y : Int} {L : List Int} {X2 Y2 : Int} {M : List Int} (h : ¬ (X = X2 ∧ Y = Y2 ∧ L = M)) : sameM X Y L X2 Y2 M = false := by unfold sameM; exact decide_eq_false h
theorem sameM_in (X Y : Int) (L M : List Int) : sameM X Y L X Y M = imEq L M := by
 by_cases h : L = M
 ·subst h; rw [sameM_yes, imEq_yes]
 ·rw [imEq_no h, sameM_no fun k => h k.2.2]
def ImEqAns (L M : List Int) (w : World) (e : Ending) (w' : World) : Prop := e = .returned (.bool (imEq L M)) ∧ ∃ q, w' = w.drewN q
theorem ext_of {L M : List Int} (h : L.length = M.length) (hall : ∀ j, j < L.length → L[j]? = M[j]?) : L = M := by
 apply List.ext_getElem?
 intro j
 by_cases hj : j < L.length
 ·exact hall j hj
 ·rw [List.getElem?_eq_none (by omega), List.getElem?_eq_none (by omega)]
set_option maxHeartbeats 1000000 in
theorem l05Ints_any (v u : Value) (L M : List Int) (w : World) (hv : RdI w v L) (hu : RdI w u M) : Calls Tryz.prog 242 #[v, u] w (ImEqAns L M w) := by
 obtain ⟨A, c, rfl⟩ := hv.form
 obtain ⟨A', c', rfl⟩ := hu.form
 have h1 := hv.len
 have h2 := hu.len
 unfold maxLen at h1 h2
 obtain ⟨n, hn⟩ : ∃ n, n = L.length := ⟨_, rfl⟩
 obtain ⟨n2, hn2⟩ : ∃ n2, n2 = M.length := ⟨_, rfl⟩
 rw [← hn] at h1 hv ⊢
 rw [← hn2] at h2 hu ⊢
 have Hn := Lib.hid hn
 have Hn2 := Lib.hid hn2
 have Hv := Lib.hid hv
 have Hu := Lib.hid hu
 clear hv hu hn hn2
 by_cases hl : n = n2
 ·subst hl
  go_enter Tryz.func242, Tryz.ntmps242
  go_wp2_with fail
  go_loopw [5] (fun i wr => ∃ k : Nat, k ≤ n ∧ i = .int .i64 k ∧ Hid (∀ j, j < k → L[j]? = M[j]?) ∧ ∃ q, wr = w.drewN q) (fun i _ => n - (intOf i).toNat)
  case atStart => exact ⟨0, Nat.zero_le _, rfl, Lib.hid (fun j hj => by omega), 0, rfl⟩
  case round =>
   obtain ⟨k, hk, rfl, Hall, q, rfl⟩ := hrel
   by_cases hlt : k < n
   ·obtain ⟨a, x, rfl, hx, hcx⟩ := Hv.out.at_ (k := k) (by rw [← Hn.out]; exact hlt)
    obtain ⟨a', y, rfl, hy, hcy⟩ := Hu.out.at_ (k := k) (by rw [← Hn2.out]; exact hlt)
    have Hx := Lib.hid hx
    have Hy := Lib.hid hy
    clear hx hy
    have k0 : (0 : Int) ≤ (k : Int) := by omega
    have k1 : (k : Int) < (n : Int) := by omega
    by_cases hxy : x = y
    ·subst hxy
     go_wp2_with fail
     go_quiet (fail)
     go_wp2_with fail
     rename_i nq
     go_roundw
     case rel =>
      refine ⟨k + 1, by omega, by go_num, Lib.hid (fun j hj => ?_), _, rfl⟩
      by_cases e : j < k
      ·exact Hall.out j e
      ·obtain rfl : j = k := by omega
       rw [Hx.out, Hy.out]
     case measure => simp [intOf]; omega
    ·have hb : (x == y) = false := by rw [beq_eq_false_iff_ne]; exact hxy
     have hno : imEq L M = false := imEq_no fun h => hxy (by have h3 := Hx.out; rw [h, Hy.out] at h3; exact (Option.some.inj h3).symm)
     have Hno := Lib.hid hno
     clear hno hxy
     go_wp2_with fail
     go_quiet (fail)
     go_wp2_with fail
     go_ret
     exact ⟨ret_bool Hno.out.symm, q + _, by first | rfl | exact World.drewN_drewN _ _ _⟩
   ·obtain rfl : k = n := by omega
    have hyes : imEq L M = true := by
     have h : L = M := ext_of (by rw [← Hn.out, ← Hn2.out]) (fun j hj => Hall.out j (by rw [Hn.out]; exact hj))
     subst h; exact imEq_yes L
    have Hyes := Lib.hid hyes
    clear hyes
    go_wp2_with fail
    go_ret
    exact ⟨ret_bool Hyes.out.symm, _, rfl⟩
 ·have hno : imEq L M = false := imEq_no fun h => hl (by rw [Hn.out, Hn2.out, h])
  have Hno := Lib.hid hno
  have hli : ((n : Int) == (n2 : Int)) = false := by rw [beq_eq_false_iff_ne]; omega
  clear hno
  go_enter Tryz.func242, Tryz.ntmps242
  go_wp2_with fail
  go_ret
  exact ⟨ret_bool Hno.out.symm, 0, rfl⟩
theorem equalI (v u : Value) (L M : List Int) (w : World) (hv : RdI w v L) (hu : RdI w u M) : Calls Tryz.prog 247 #[v, u] w (ImEqAns L M w) := by
 have h1 := hv.len
 have h2 := hu.len
 unfold maxLen at h1 h2
 by_cases hl : L.length = M.length
 ·rcases hv with ⟨rfl, rfl⟩ | ⟨g, c, rfl, _, _, hc⟩
  ·obtain ⟨A, c, rfl⟩ := hu.form
   have hM : M = [] := List.eq_nil_of_length_eq_zero hl.symm
   subst hM
   refine (Tryz.slices_Equal_int_empty none A 0 0 c w (by omega)).mono ?_
   rintro e w' ⟨rfl, rfl⟩
   exact ⟨ret_bool (by rw [imEq_yes]; rfl), 0, rfl⟩
  ·rcases hu with ⟨rfl, rfl⟩ | ⟨g2, c2, rfl, _, _, hc2⟩
   ·have hL : L = [] := List.eq_nil_of_length_eq_zero hl
    subst hL
    refine (Tryz.slices_Equal_int_empty _ _ c 0 0 w (by omega)).mono ?_
    rintro e w' ⟨rfl, rfl⟩
    exact ⟨ret_bool (by rw [imEq_yes]; rfl), 0, rfl⟩
   ·refine (Tryz.slices_Equal_int g 0 L.length c g2 0 M.length c2 L M w (Nat.le_refl _) (Nat.le_refl _) h1 h2 (fun j hj => ?_) (fun j hj => ?_)).mono ?_
    ·rw [Nat.zero_add, List.getD_eq_getElem?_getD, List.getElem?_eq_getElem hj]; exact hc j _ (List.getElem?_eq_getElem hj)
    ·rw [Nat.zero_add, List.getD_eq_getElem?_getD, List.getElem?_eq_getElem hj]; exact hc2 j _ (List.getElem?_eq_getElem hj)
    ·rintro e w' ⟨rfl, q, rfl⟩
     refine ⟨ret_bool ?_, q, rfl⟩
     rw [List.take_length, List.take_length]
     by_cases h : L = M
     ·subst h; rw [imEq_yes]; exact beq_self_eq_true L
     ·rw [imEq_no h]; exact beq_eq_false_iff_ne.2 h
 ·obtain ⟨A, c, rfl⟩ := hv.form
  obtain ⟨A2, c2, rfl⟩ := hu.form
  refine (Tryz.slices_Equal_int_lens A A2 L.length c M.length c2 w hl).mono ?_
  rintro e w' ⟨rfl, rfl⟩
  exact ⟨ret_bool (by rw [imEq_no (fun h => hl (by rw [h]))]), 0, rfl⟩
def SameMAns (X Y : Int) (L : List Int) (X2 Y2 : Int) (M : List Int) (w : World) (e : Ending) (w' : World) : Prop := e = .returned (.bool (sameM X Y L X2 Y2 M)) ∧ Below w.heap.size w w'
set_option maxHeartbeats 1000000 in
theorem sameII (X Y : Int) (v : Value) (L : List Int) (X2 Y2 : Int) (u : Value) (M : List Int) (w : World) (hv : RdI w v L) (hu : RdI w u M) :
  Calls Tryz.prog 224 #[.agg #[.int .i64 X, .int .i64 Y, v], .agg #[.int .i64 X2, .int .i64 Y2, u]] w (SameMAns X Y L X2 Y2 M w) := by
 have hv2 := (hv.alloc (.cells #[.int .i64 X, .int .i64 Y, v] 70)).alloc (.cells #[.int .i64 X2, .int .i64 Y2, u] 70)
 have hu2 := (hu.alloc (.cells #[.int .i64 X, .int .i64 Y, v] 70)).alloc (.cells #[.int .i64 X2, .int .i64 Y2, u] 70)
 have Hw := Lib.hid (belI_call (belI_box w (.cells #[.int .i64 X, .int .i64 Y, v] 70)) (belI_box _ (.cells #[.int .i64 X2, .int .i64 Y2, u] 70)))
 have Hv := Lib.hid hv2
 have Hu := Lib.hid hu2
 obtain ⟨A, c, rfl⟩ := hv.form
 obtain ⟨A', c', rfl⟩ := hu.form
 clear hv hu hv2 hu2
 by_cases hx : X = X2
 ·subst hx
  by_cases hy : Y = Y2
  ·subst hy
   obtain ⟨b, hb⟩ : ∃ b, b = imEq L M := ⟨_, rfl⟩
   have HA : Hid (sameM X Y L X Y M = b) := Lib.hid (by rw [hb]; exact sameM_in X Y L M)
   have R := fun W h1 h2 => equalI (.slice A L.length c) (.slice A' M.length c') L M W h1 h2
   unfold ImEqAns at R
   rw [← hb] at R
   have HR := Lib.hid R
   clear R hb
   go_enter Tryz.func224, Tryz.ntmps224
   go_wp2_with fail
   refine (HR.out _ Hv.out Hu.out).mono ?_
   rintro e w1 ⟨rfl, q, rfl⟩
   go_wp2_with fail
   go_ret
   exact ⟨ret_bool HA.out.symm, ⟨Hw.out.os, Hw.out.tape, Hw.out.output, Hw.out.size, Hw.out.block⟩⟩
  ·have HA : Hid (sameM X Y L X Y2 M = false) := Lib.hid (sameM_no fun h => hy h.2.1)
   have hyb : (Y == Y2) = false := by rw [beq_eq_false_iff_ne]; exact hy
   go_enter Tryz.func224, Tryz.ntmps224
   go_wp2_with fail
   go_ret
   exact ⟨ret_bool HA.out.symm, Hw.out⟩
 ·have HA : Hid (sameM X Y L X2 Y2 M = false) := Lib.hid (sameM_no fun h => hx h.1)
  have hxb : (X == X2) = false := by rw [beq_eq_false_iff_ne]; exact hx
  go_enter Tryz.func224, Tryz.ntmps224
  go_wp2_with fail
  go_ret
  exact ⟨ret_bool HA.out.symm, Hw.out⟩
set_option maxHeartbeats 1000000 in
theorem sameIS (X Y : Int) (v : Value) (L : List Int) (X2 Y2 : Int) (u : Value) (M : List Int) (w : World) (hv : RdI w v L) (hu : RdI w u M) :
  Calls Tryz.prog 214 #[.agg #[.int .i64 X, .int .i64 Y, v], .agg #[.int .i64 X2, .int .i64 Y2, u]] w (SameMAns X Y L X2 Y2 M w) := by
 have hv2 := (hv.alloc (.cells #[.int .i64 X, .int .i64 Y, v] 70)).alloc (.cells #[.int .i64 X2, .int .i64 Y2, u] 70)
 have hu2 := (hu.alloc (.cells #[.int .i64 X, .int .i64 Y, v] 70)).alloc (.cells #[.int .i64 X2, .int .i64 Y2, u] 70)
 have Hw := Lib.hid (belI_call (belI_box w (.cells #[.int .i64 X, .int .i64 Y, v] 70)) (belI_box _ (.cells #[.int .i64 X2, .int .i64 Y2, u] 70)))
 have Hv := Lib.hid hv2
 have Hu := Lib.hid hu2
 obtain ⟨A, c, rfl⟩ := hv.form
 obtain ⟨A', c', rfl⟩ := hu.form
 clear hv hu hv2 hu2
 by_cases hx : X = X2
 ·subst hx
  by_cases hy : Y = Y2
  ·subst hy
   obtain ⟨b, hb⟩ : ∃ b, b = imEq L M := ⟨_, rfl⟩
   have HA : Hid (sameM X Y L X Y M = b) := Lib.hid (by rw [hb]; exact sameM_in X Y L M)
   have R := fun W h1 h2 => l05Ints_any (.slice A L.length c) (.slice A' M.length c') L M W h1 h2
   unfold ImEqAns at R
   rw [← hb] at R
   have HR := Lib.hid R
   clear R hb
   go_enter Tryz.func214, Tryz.ntmps214
   go_wp2_with fail
   refine (HR.out _ Hv.out Hu.out).mono ?_
   rintro e w1 ⟨rfl, q, rfl⟩
   go_wp2_with fail
   go_ret
   exact ⟨ret_bool HA.out.symm, ⟨Hw.out.os, Hw.out.tape, Hw.out.output, Hw.out.size, Hw.out.block⟩⟩
  ·have HA : Hid (sameM X Y L X Y2 M = false) := Lib.hid (sameM_no fun h => hy h.2.1)
   have hyb : (Y == Y2) = false := by rw [beq_eq_false_iff_ne]; exact hy
   go_enter Tryz.func214, Tryz.ntmps214
   go_wp2_with fail
   go_ret
   exact ⟨ret_bool HA.out.symm, Hw.out⟩
 ·have HA : Hid (sameM X Y L X2 Y2 M = false) := Lib.hid (sameM_no fun h => hx h.1)
  have hxb : (X == X2) = false := by rw [beq_eq_false_iff_ne]; exact hx
  go_enter Tryz.func214, Tryz.ntmps214
  go_wp2_with fail
  go_ret
  exact ⟨ret_bool HA.out.symm, Hw.out⟩
end Go.Proofs.YtnndifemkichmaaGreat
namespace Go.Proofs.YtnndifemkichmaaGreat
open Go.RowKit
theorem below_grown0 {w w' : World} (h : w.grownBy w' none) : Below w.heap.size w w' := ⟨h.os, h.tape, h.output, h.size, fun k hk => h.block k hk (by simp)⟩
end Go.Proofs.YtnndifemkichmaaGreat
namespace Go.Proofs.YtnndifemkichmaaGreat
open Go.RowKit
theorem pl_d {w : World} {fs : List Sf} {A : Option Addr} {n c : Nat} {bs : List Nat} (h : repSfs.R w fs [.slice A n c] bs) {k : Nat} (hk : k < fs.length) : ∃ g f d bd, A = some ⟨g, 0, none⟩ ∧ fs[k]? = some f ∧ C11 w g (k * 11) f d ∧ repInts.R w f.data [d] bd ∧ ∀ b ∈ bd, b ∈ bs := by
 rcases SlU.of_rep h with ⟨_, rfl, _⟩ | ⟨g, c', xs, bss, he, hU, rfl⟩
 ·simp at hk
 ·injection he with e1 e2 e3
  subst e1
  obtain ⟨f, x, b, hf, hx, hb, hl, hR, hc⟩ := hU.at_ hk
  obtain ⟨d, rfl, hd⟩ := hR
  exact ⟨g, f, d, b, rfl, hf, c11_of hc, hd, fun q hq => List.mem_cons.2 (.inr (flat_mem hb hq))⟩
end Go.Proofs.YtnndifemkichmaaGreat
namespace Go.Proofs.YtnndifemkichmaaGreat
open Go.RowKit
theorem info2_rc : ∃ i0, Tryz.prog.info? 131 = some i0 ∧ i0.zero = some (.agg #[.int .i64 0, .int .i64 0, .int .i64 0, .int .i64 0]) ∧ i0.size = 4 ∧ i0.bytes = 32 := by
 obtain ⟨i0, hi, h0, h1, h2⟩ := info_parts infoRect
 exact ⟨i0, hi, h0, h1, h2⟩
end Go.Proofs.YtnndifemkichmaaGreat
namespace Go.Proofs.YtnndifemkichmaaGreat
open Go.RowKit
def RgQ (Q : List Rc) (w : World) (e : Ending) (w' : World) : Prop := ∃ v, e = .returned (.agg #[v]) ∧ w'.ownsRow w.heap.size 131 4 v Q.length (rcsCells Q) ∧ Below w.heap.size w w'
end Go.Proofs.YtnndifemkichmaaGreat
namespace Go.Proofs.YtnndifemkichmaaGreat
open Go.RowKit
def sfR (v : Value) : Option (DataW Value × List MemPlace) := some (.held v, [])
theorem keyI : Maps.Keyed Tryz.prog 3 := Maps.int_keyed Tryz.underlying3
structure DmD (w : World) (D : DataW Value) (L : List Sf) : Prop where
 keys : ∀ kl, Maps.has D kl = true → ∃ f ∈ L, kl = .int .i64 f.id
 at_ : ∀ f ∈ L, Maps.has D (.int .i64 f.id) = true ∧ ∃ d, RdI w d f.data ∧ ∀ z, D.atKey (.int .i64 f.id) z = .held (.agg #[.int .i64 f.id, .int .i64 f.x, .int .i64 f.y, .int .i64 f.w, .int .i64 f.h, .int .i64 f.alpha, .int .i64 f.orient, .bool f.vis, .int .i64 f.bw, .int .i64 f.bh, d])
theorem lit_ne {i j : Int} (h : ¬ i = j) : (Lit.int .i64 i) ≠ .int .i64 j := fun e => h (by injection e)
theorem DmD.made (w : World) : DmD w (.map []) [] := ⟨fun kl h => by simp [Maps.has] at h, fun f h => by cases h⟩
theorem DmD.put {w : World} {D : DataW Value} {L : List Sf} (h : DmD w D L) (hm : Maps.IsMap D) {f : Sf} {d : Value} (hn : ∀ g ∈ L, ¬ g.id = f.id) (hd : RdI w d f.data) :
  DmD w (D.put (.int .i64 f.id) (.held (.agg #[.int .i64 f.id, .int .i64 f.x, .int .i64 f.y, .int .i64 f.w, .int .i64 f.h, .int .i64 f.alpha, .int .i64 f.orient, .bool f.vis, .int .i64 f.bw, .int .i64 f.bh, d]))) (L ++ [f]) := by
 refine ⟨fun kl hk => ?_, fun g hg => ?_⟩
 ·by_cases e : kl = .int .i64 f.id
  ·exact ⟨f, List.mem_append.2 (.inr (List.mem_singleton.2 rfl)), e⟩
  ·rw [Maps.has_put_other e] at hk
   obtain ⟨g, hg, e2⟩ := h.keys kl hk
   exact ⟨g, List.mem_append.2 (.inl hg), e2⟩
 ·rcases List.mem_append.1 hg with hg | hg
  ·have e := lit_ne (hn g hg)
   rw [Maps.has_put_other e]
   obtain ⟨h1, d', h2, h3⟩ := h.at_ g hg
   exact ⟨h1, d', h2, fun z => by rw [Maps.atKey_put_other e]; exact h3 z⟩
  ·obtain rfl := List.mem_singleton.1 hg
   exact ⟨Maps.has_put_same hm (show WideAt.IsKeyLit (.int .i64 g.id) from trivial) _, d, hd, fun z => Maps.atKey_put_same hm (show WideAt.IsKeyLit (.int .i64 g.id) from trivial) _ _⟩
theorem DmD.del {w : World} {D : DataW Value} {L : List Sf} (h : DmD w D L) (i : Int) {M : List Sf} (hM : ∀ f, f ∈ M ↔ (f ∈ L ∧ ¬ f.id = i)) : DmD w (D.del (.int .i64 i)) M := by
 refine ⟨fun kl hk => ?_, fun g hg => ?_⟩
 ·by_cases e : kl = .int .i64 i
  ·rw [e, Maps.has_del_same] at hk; cases hk
  ·rw [Maps.has_del_other e] at hk
   obtain ⟨g, hg, rfl⟩ := h.keys kl hk
   exact ⟨g, (hM g).2 ⟨hg, fun h => e (by rw [h])⟩, rfl⟩
 ·obtain ⟨h1, h2⟩ := (hM g).1 hg
  have e := lit_ne h2
  rw [Maps.has_del_other e]
  obtain ⟨h3, d', h4, h5⟩ := h.at_ g h1
  exact ⟨h3, d', h4, fun z => by rw [Maps.atKey_del_other e]; exact h5 z⟩
theorem wf_id {f : Sf} (h : sfOk f) : (Lit.int .i64 f.id).wf = true := by have := h.1; exact WalkArith.wf_i64 ⟨by omega, by omega⟩
theorem sfR_held {v : Value} {D : DataW Value} {ps : List MemPlace} (h : sfR v = some (D, ps)) : D = .held v := by
 unfold sfR at h; injection h with h; injection h with h _; exact h.symm
theorem zeroSf (w : World) : (zeroValue 169).run Tryz.prog w = .ok (.agg #[.int .i64 0, .int .i64 0, .int .i64 0, .int .i64 0, .int .i64 0, .int .i64 0, .int .i64 0, .bool false, .int .i64 0, .int .i64 0, .slice none 0 0]) w := by kernel_rfl
theorem look_hit {V w : World} {b n : Nat} {D : DataW Value} {L : List Sf} (hown : V.ownsMap Tryz.prog 3 sfR b n D) (hD : DmD w D L) {f : Sf} (hf : f ∈ L) (hs : sfOk f) :
  ∃ d, RdI w d f.data ∧ (Instr.lookup 200 (.map (some b)) (.int .i64 f.id) false).run Tryz.prog V = .ok (.agg #[.int .i64 f.id, .int .i64 f.x, .int .i64 f.y, .int .i64 f.w, .int .i64 f.h, .int .i64 f.alpha, .int .i64 f.orient, .bool f.vis, .int .i64 f.bw, .int .i64 f.bh, d]) V := by
 obtain ⟨_, d, hd, hat⟩ := hD.at_ f hf
 obtain ⟨v, ps, hrun, hv⟩ := hown.lookup keyI Tryz.underlying200 (zeroSf V) (zd := .held _) (zp := []) rfl (Maps.keyOf_int_mk Tryz.underlying3 (wf_id hs))
 rw [hat] at hv
 have e := sfR_held hv
 injection e with e
 subst e
 exact ⟨d, hd, hrun⟩
theorem look_miss {V w : World} {b n : Nat} {D : DataW Value} {L : List Sf} (hown : V.ownsMap Tryz.prog 3 sfR b n D) (hD : DmD w D L) {f : Sf} (hf : ∀ g ∈ L, ¬ g.id = f.id) (hs : sfOk f) :
  (Instr.lookup 200 (.map (some b)) (.int .i64 f.id) false).run Tryz.prog V = .ok (.agg #[.int .i64 0, .int .i64 0, .int .i64 0, .int .i64 0, .int .i64 0, .int .i64 0, .int .i64 0, .bool false, .int .i64 0, .int .i64 0, .slice none 0 0]) V := by
 have hh : Maps.has D (.int .i64 f.id) = false := by
  rcases e : Maps.has D (.int .i64 f.id) with _ | _
  ·rfl
  ·obtain ⟨g, hg, e2⟩ := hD.keys _ e
   injection e2 with _ e3
   exact absurd e3.symm (hf g hg)
 obtain ⟨v, ps, hrun, hv⟩ := hown.lookup keyI Tryz.underlying200 (zeroSf V) (zd := .held _) (zp := []) rfl (Maps.keyOf_int_mk Tryz.underlying3 (wf_id hs))
 rw [Maps.atKey_of_not_has hh] at hv
 have e := sfR_held hv
 have e := DataW.held.inj e
 subst e
 exact hrun
set_option maxRecDepth 10000 in
theorem wpList_next_sf {ops : Array Oper} {rest : List Oper} {o : Oper} {a : Act} {w : World} {Q : Exit → Act → World → Prop} (hg : o.guard = none) (it : Operand) (hop : o.op = Op.next it false) (b r n : Nat) (D : DataW Value) (left : Lit → Bool) (cnt : Nat)
  (hit : a.eval it = .pointer (some ⟨r, 0, none⟩)) (h : w.ranges Tryz.prog 3 sfR b r n D left cnt) {w0 : World} {L : List Sf} (hD : DmD w0 D L)
  (hDone : (∀ kl, left kl = false) → wpList Tryz.prog ops Q rest (a.put o.dst (.tuple #[.bool false])) w)
  (hMore : ∀ (f : Sf) (d : Value) (w' : World) (cnt' : Nat), f ∈ L → left (.int .i64 f.id) = true → RdI w0 d f.data → w'.ranges Tryz.prog 3 sfR b r n D (fun z => left z && !z.sameKey (.int .i64 f.id)) cnt' → cnt' < cnt → w.grownBy w' (some r) → w'.heap.size = w.heap.size →
   (Instr.entry (.pointer (some ⟨r, 0, none⟩))).run Tryz.prog w' = .ok (.tuple #[.int .i64 f.id, .agg #[.int .i64 f.id, .int .i64 f.x, .int .i64 f.y, .int .i64 f.w, .int .i64 f.h, .int .i64 f.alpha, .int .i64 f.orient, .bool f.vis, .int .i64 f.bw, .int .i64 f.bh, d]]) w' →
   wpList Tryz.prog ops Q rest (a.put o.dst (.tuple #[.bool true, .int .i64 f.id, .agg #[.int .i64 f.id, .int .i64 f.x, .int .i64 f.y, .int .i64 f.w, .int .i64 f.h, .int .i64 f.alpha, .int .i64 f.orient, .bool f.vis, .int .i64 f.bw, .int .i64 f.bh, d]])) w') :
  wpList Tryz.prog ops Q (o :: rest) a w := by
 refine wpList_next_ranges w hg it hop 3 keyI sfR (fun v : Value => v) (fun v : Value => v) (fun key _ _ => ⟨key, rfl⟩) (fun v _ _ => ⟨v, rfl⟩) b r n D left cnt hit h (fun _ => hDone) fun x c kl y w' cnt' hkey hl hv hat hrg hlt hgr hs hen => ?_
 obtain ⟨f, hf, rfl⟩ := hD.keys kl (Maps.has_true_of_atKey hat)
 obtain ⟨x', ex, e2, _⟩ := Maps.keyOf_int_inv Tryz.underlying3 hkey
 injection e2 with _ e3
 subst ex e3
 obtain ⟨_, d, hd, hat2⟩ := hD.at_ f hf
 obtain ⟨y1, y2⟩ := y
 have e := sfR_held hv
 have e4 := hat (.held c)
 rw [hat2] at e4
 dsimp only at e4
 rw [e] at e4
 injection e4 with e4
 subst e4
 exact hMore f d w' cnt' hf hl hd hrg hlt hgr hs hen
end Go.Proofs.YtnndifemkichmaaGreat
namespace Go.Proofs.YtnndifemkichmaaGreat
open Go.RowKit
noncomputable def ssB (f g : Sf) : Bool := @decide (f = g) (Classical.propDecidable _)
theorem ssB_yes (f : Sf) : ssB f f = true := by unfold ssB; simp
theorem ssB_no {f g : Sf} (h : ¬ f = g) : ssB f g = false := by unfold ssB; simp only [decide_eq_false_iff_not]; exact h
theorem ssB_iff {f g : Sf} : ssB f g = true ↔ f = g := by unfold ssB; simp only [decide_eq_true_eq]
theorem ssB_im {i x y w h a o : Int} {v : Bool} {p q p2 q2 : Int} {L M : List Int} : sameM p q L p2 q2 M = ssB ⟨i, x, y, w, h, a, o, v, p, q, L⟩ ⟨i, x, y, w, h, a, o, v, p2, q2, M⟩ := by
 by_cases e : p = p2 ∧ q = q2 ∧ L = M
 ·obtain ⟨rfl, rfl, rfl⟩ := e
  rw [sameM_yes, ssB_yes]
 ·rw [sameM_no e, ssB_no (fun h => e (by injection h with _ _ _ _ _ _ _ _ h1 h2 h3; exact ⟨h1, h2, h3⟩))]
def SsAns (f g : Sf) (w : World) (e : Ending) (w' : World) : Prop := e = .returned (.bool (ssB f g)) ∧ Below w.heap.size w w'
set_option maxHeartbeats 1000000 in
theorem ssI (f g : Sf) (d u : Value) (w : World) (hv : RdI w d f.data) (hu : RdI w u g.data) :
  Calls Tryz.prog 181 #[.agg #[.int .i64 f.id, .int .i64 f.x, .int .i64 f.y, .int .i64 f.w, .int .i64 f.h, .int .i64 f.alpha, .int .i64 f.orient, .bool f.vis, .int .i64 f.bw, .int .i64 f.bh, d], .agg #[.int .i64 g.id, .int .i64 g.x, .int .i64 g.y, .int .i64 g.w, .int .i64 g.h, .int .i64 g.alpha, .int .i64 g.orient, .bool g.vis, .int .i64 g.bw, .int .i64 g.bh, u]] w (SsAns f g w) := by
 obtain ⟨A, c, rfl⟩ := hv.form
 obtain ⟨B, m, rfl⟩ := hu.form
 obtain ⟨fid, fx, fy, fw, fh, falpha, forient, fvis, fbw, fbh, fdata⟩ := f
 obtain ⟨gid, gx, gy, gw, gh, galpha, gorient, gvis, gbw, gbh, gdata⟩ := g
 dsimp only at hv hu ⊢
 obtain ⟨nf, hnf⟩ : ∃ n, n = fdata.length := ⟨_, rfl⟩
 obtain ⟨ng, hng⟩ : ∃ n, n = gdata.length := ⟨_, rfl⟩
 rw [← hnf] at hv ⊢
 rw [← hng] at hu ⊢
 clear hnf hng
 have hB := belI_box w (.cells #[.int .i64 fid, .int .i64 fx, .int .i64 fy, .int .i64 fw, .int .i64 fh, .int .i64 falpha, .int .i64 forient, .bool fvis, .int .i64 fbw, .int .i64 fbh, .slice A nf c] 169)
 have hB2 := belI_box (w.alloc (.cells #[.int .i64 fid, .int .i64 fx, .int .i64 fy, .int .i64 fw, .int .i64 fh, .int .i64 falpha, .int .i64 forient, .bool fvis, .int .i64 fbw, .int .i64 fbh, .slice A nf c] 169)) (.cells #[.int .i64 gid, .int .i64 gx, .int .i64 gy, .int .i64 gw, .int .i64 gh, .int .i64 galpha, .int .i64 gorient, .bool gvis, .int .i64 gbw, .int .i64 gbh, .slice B ng m] 169)
 have hX := (BkAt.new w 169 #[.int .i64 fid, .int .i64 fx, .int .i64 fy, .int .i64 fw, .int .i64 fh, .int .i64 falpha, .int .i64 forient, .bool fvis, .int .i64 fbw, .int .i64 fbh, .slice A nf c]).call hB2
 have hY := BkAt.newAt (g := w.heap.size + 1) (show (w.alloc (.cells #[.int .i64 fid, .int .i64 fx, .int .i64 fy, .int .i64 fw, .int .i64 fh, .int .i64 falpha, .int .i64 forient, .bool fvis, .int .i64 fbw, .int .i64 fbh, .slice A nf c] 169)).heap.size = w.heap.size + 1 by simp) 169 #[.int .i64 gid, .int .i64 gx, .int .i64 gy, .int .i64 gw, .int .i64 gh, .int .i64 galpha, .int .i64 gorient, .bool gvis, .int .i64 gbw, .int .i64 gbh, .slice B ng m]
 have HC := sameII fbw fbh _ fdata gbw gbh _ gdata _ ((hv.call hB).call hB2) ((hu.call hB).call hB2)
 unfold SameMAns at HC
 unfold SsAns
 replace hB := belI_call hB hB2
 clear hB2 hv hu
 have x0 := hX.cell 0 rfl
 have x1 := hX.cell 1 rfl
 have x2 := hX.cell 2 rfl
 have x3 := hX.cell 3 rfl
 have x4 := hX.cell 4 rfl
 have x5 := hX.cell 5 rfl
 have x6 := hX.cell 6 rfl
 have x7 := hX.cell 7 rfl
 have x8 := hX.cell 8 rfl
 have x9 := hX.cell 9 rfl
 have x10 := hX.cell 10 rfl
 have y0 := hY.cell 0 rfl
 have y1 := hY.cell 1 rfl
 have y2 := hY.cell 2 rfl
 have y3 := hY.cell 3 rfl
 have y4 := hY.cell 4 rfl
 have y5 := hY.cell 5 rfl
 have y6 := hY.cell 6 rfl
 have y7 := hY.cell 7 rfl
 have y8 := hY.cell 8 rfl
 have y9 := hY.cell 9 rfl
 have y10 := hY.cell 10 rfl
 have HB := Lib.hid hB
 have HC := Lib.hid HC
 clear hX hY hB
 by_cases e : fid = gid
 rotate_left
 ·have Hn := Lib.hid (ssB_no (f := ⟨fid, fx, fy, fw, fh, falpha, forient, fvis, fbw, fbh, fdata⟩) (g := ⟨gid, gx, gy, gw, gh, galpha, gorient, gvis, gbw, gbh, gdata⟩) fun h => e (by injection h))
  have eb : (fid == gid) = false := by rw [beq_eq_false_iff_ne]; exact e
  go_enter Tryz.func181, Tryz.ntmps181
  go_wp2_with fail
  go_ret
  exact ⟨ret_bool Hn.out.symm, HB.out⟩
 subst e
 by_cases e : fx = gx
 rotate_left
 ·have Hn := Lib.hid (ssB_no (f := ⟨fid, fx, fy, fw, fh, falpha, forient, fvis, fbw, fbh, fdata⟩) (g := ⟨fid, gx, gy, gw, gh, galpha, gorient, gvis, gbw, gbh, gdata⟩) fun h => e (by injection h))
  have eb : (fx == gx) = false := by rw [beq_eq_false_iff_ne]; exact e
  go_enter Tryz.func181, Tryz.ntmps181
  go_wp2_with fail
  go_ret
  exact ⟨ret_bool Hn.out.symm, HB.out⟩
 subst e
 by_cases e : fy = gy
 rotate_left
 ·have Hn := Lib.hid (ssB_no (f := ⟨fid, fx, fy, fw, fh, falpha, forient, fvis, fbw, fbh, fdata⟩) (g := ⟨fid, fx, gy, gw, gh, galpha, gorient, gvis, gbw, gbh, gdata⟩) fun h => e (by injection h))
  have eb : (fy == gy) = false := by rw [beq_eq_false_iff_ne]; exact e
  go_enter Tryz.func181, Tryz.ntmps181
  go_wp2_with fail
  go_ret
  exact ⟨ret_bool Hn.out.symm, HB.out⟩
 subst e
 by_cases e : fw = gw
 rotate_left
 ·have Hn := Lib.hid (ssB_no (f := ⟨fid, fx, fy, fw, fh, falpha, forient, fvis, fbw, fbh, fdata⟩) (g := ⟨fid, fx, fy, gw, gh, galpha, gorient, gvis, gbw, gbh, gdata⟩) fun h => e (by injection h))
  have eb : (fw == gw) = false := by rw [beq_eq_false_iff_ne]; exact e
  go_enter Tryz.func181, Tryz.ntmps181
  go_wp2_with fail
  go_ret
  exact ⟨ret_bool Hn.out.symm, HB.out⟩
 subst e
 by_cases e : fh = gh
 rotate_left
 ·have Hn := Lib.hid (ssB_no (f := ⟨fid, fx, fy, fw, fh, falpha, forient, fvis, fbw, fbh, fdata⟩) (g := ⟨fid, fx, fy, fw, gh, galpha, gorient, gvis, gbw, gbh, gdata⟩) fun h => e (by injection h))
  have eb : (fh == gh) = false := by rw [beq_eq_false_iff_ne]; exact e
  go_enter Tryz.func181, Tryz.ntmps181
  go_wp2_with fail
  go_ret
  exact ⟨ret_bool Hn.out.symm, HB.out⟩
 subst e
 by_cases e : falpha = galpha
 rotate_left
 ·have Hn := Lib.hid (ssB_no (f := ⟨fid, fx, fy, fw, fh, falpha, forient, fvis, fbw, fbh, fdata⟩) (g := ⟨fid, fx, fy, fw, fh, galpha, gorient, gvis, gbw, gbh, gdata⟩) fun h => e (by injection h))
  have eb : (falpha == galpha) = false := by rw [beq_eq_false_iff_ne]; exact e
  go_enter Tryz.func181, Tryz.ntmps181
  go_wp2_with fail
  go_ret
  exact ⟨ret_bool Hn.out.symm, HB.out⟩
 subst e
 by_cases e : forient = gorient
 rotate_left
 ·have Hn := Lib.hid (ssB_no (f := ⟨fid, fx, fy, fw, fh, falpha, forient, fvis, fbw, fbh, fdata⟩) (g := ⟨fid, fx, fy, fw, fh, falpha, gorient, gvis, gbw, gbh, gdata⟩) fun h => e (by injection h))
  have eb : (forient == gorient) = false := by rw [beq_eq_false_iff_ne]; exact e
  go_enter Tryz.func181, Tryz.ntmps181
  go_wp2_with fail
  go_ret
  exact ⟨ret_bool Hn.out.symm, HB.out⟩
 subst e
 by_cases e : fvis = gvis
 rotate_left
 ·have Hn := Lib.hid (ssB_no (f := ⟨fid, fx, fy, fw, fh, falpha, forient, fvis, fbw, fbh, fdata⟩) (g := ⟨fid, fx, fy, fw, fh, falpha, forient, gvis, gbw, gbh, gdata⟩) fun h => e (by injection h))
  cases fvis <;> cases gvis
  ·exact absurd rfl e
  ·clear e
   go_enter Tryz.func181, Tryz.ntmps181
   go_wp2_with fail
   go_ret
   exact ⟨ret_bool Hn.out.symm, HB.out⟩
  ·clear e
   go_enter Tryz.func181, Tryz.ntmps181
   go_wp2_with fail
   go_ret
   exact ⟨ret_bool Hn.out.symm, HB.out⟩
  ·exact absurd rfl e
 subst e
 rw [ssB_im (i := fid) (x := fx) (y := fy) (w := fw) (h := fh) (a := falpha) (o := forient) (v := fvis)] at HC
 go_enter Tryz.func181, Tryz.ntmps181
 go_wp2_with fail
 refine HC.out.mono ?_
 rintro e w1 ⟨rfl, hb⟩
 go_wp2_with fail
 go_ret
 exact ⟨rfl, belI_call HB.out hb⟩
set_option maxHeartbeats 1000000 in
theorem ssS (f g : Sf) (d u : Value) (w : World) (hv : RdI w d f.data) (hu : RdI w u g.data) :
  Calls Tryz.prog 162 #[.agg #[.int .i64 f.id, .int .i64 f.x, .int .i64 f.y, .int .i64 f.w, .int .i64 f.h, .int .i64 f.alpha, .int .i64 f.orient, .bool f.vis, .int .i64 f.bw, .int .i64 f.bh, d], .agg #[.int .i64 g.id, .int .i64 g.x, .int .i64 g.y, .int .i64 g.w, .int .i64 g.h, .int .i64 g.alpha, .int .i64 g.orient, .bool g.vis, .int .i64 g.bw, .int .i64 g.bh, u]] w (SsAns f g w) := by
 obtain ⟨A, c, rfl⟩ := hv.form
 obtain ⟨B, m, rfl⟩ := hu.form
 obtain ⟨fid, fx, fy, fw, fh, falpha, forient, fvis, fbw, fbh, fdata⟩ := f
 obtain ⟨gid, gx, gy, gw, gh, galpha, gorient, gvis, gbw, gbh, gdata⟩ := g
 dsimp only at hv hu ⊢
 obtain ⟨nf, hnf⟩ : ∃ n, n = fdata.length := ⟨_, rfl⟩
 obtain ⟨ng, hng⟩ : ∃ n, n = gdata.length := ⟨_, rfl⟩
 rw [← hnf] at hv ⊢
 rw [← hng] at hu ⊢
 clear hnf hng
 have hB := belI_box w (.cells #[.int .i64 fid, .int .i64 fx, .int .i64 fy, .int .i64 fw, .int .i64 fh, .int .i64 falpha, .int .i64 forient, .bool fvis, .int .i64 fbw, .int .i64 fbh, .slice A nf c] 169)
 have hB2 := belI_box (w.alloc (.cells #[.int .i64 fid, .int .i64 fx, .int .i64 fy, .int .i64 fw, .int .i64 fh, .int .i64 falpha, .int .i64 forient, .bool fvis, .int .i64 fbw, .int .i64 fbh, .slice A nf c] 169)) (.cells #[.int .i64 gid, .int .i64 gx, .int .i64 gy, .int .i64 gw, .int .i64 gh, .int .i64 galpha, .int .i64 gorient, .bool gvis, .int .i64 gbw, .int .i64 gbh, .slice B ng m] 169)
 have hX := (BkAt.new w 169 #[.int .i64 fid, .int .i64 fx, .int .i64 fy, .int .i64 fw, .int .i64 fh, .int .i64 falpha, .int .i64 forient, .bool fvis, .int .i64 fbw, .int .i64 fbh, .slice A nf c]).call hB2
 have hY := BkAt.newAt (g := w.heap.size + 1) (show (w.alloc (.cells #[.int .i64 fid, .int .i64 fx, .int .i64 fy, .int .i64 fw, .int .i64 fh, .int .i64 falpha, .int .i64 forient, .bool fvis, .int .i64 fbw, .int .i64 fbh, .slice A nf c] 169)).heap.size = w.heap.size + 1 by simp) 169 #[.int .i64 gid, .int .i64 gx, .int .i64 gy, .int .i64 gw, .int .i64 gh, .int .i64 galpha, .int .i64 gorient, .bool gvis, .int .i64 gbw, .int .i64 gbh, .slice B ng m]
 have HC := sameIS fbw fbh _ fdata gbw gbh _ gdata _ ((hv.call hB).call hB2) ((hu.call hB).call hB2)
 unfold SameMAns at HC
 unfold SsAns
 replace hB := belI_call hB hB2
 clear hB2 hv hu
 have x0 := hX.cell 0 rfl
 have x1 := hX.cell 1 rfl
 have x2 := hX.cell 2 rfl
 have x3 := hX.cell 3 rfl
 have x4 := hX.cell 4 rfl
 have x5 := hX.cell 5 rfl
 have x6 := hX.cell 6 rfl
 have x7 := hX.cell 7 rfl
 have x8 := hX.cell 8 rfl
 have x9 := hX.cell 9 rfl
 have x10 := hX.cell 10 rfl
 have y0 := hY.cell 0 rfl
 have y1 := hY.cell 1 rfl
 have y2 := hY.cell 2 rfl
 have y3 := hY.cell 3 rfl
 have y4 := hY.cell 4 rfl
 have y5 := hY.cell 5 rfl
 have y6 := hY.cell 6 rfl
 have y7 := hY.cell 7 rfl
 have y8 := hY.cell 8 rfl
 have y9 := hY.cell 9 rfl
 have y10 := hY.cell 10 rfl
 have HB := Lib.hid hB
 have HC := Lib.hid HC
 clear hX hY hB
 by_cases e : fid = gid
 rotate_left
 ·have Hn := Lib.hid (ssB_no (f := ⟨fid, fx, fy, fw, fh, falpha, forient, fvis, fbw, fbh, fdata⟩) (g := ⟨gid, gx, gy, gw, gh, galpha, gorient, gvis, gbw, gbh, gdata⟩) fun h => e (by injection h))
  have eb : (fid == gid) = false := by rw [beq_eq_false_iff_ne]; exact e
  go_enter Tryz.func162, Tryz.ntmps162
  go_wp2_with fail
  go_ret
  exact ⟨ret_bool Hn.out.symm, HB.out⟩
 subst e
 by_cases e : fx = gx
 rotate_left
 ·have Hn := Lib.hid (ssB_no (f := ⟨fid, fx, fy, fw, fh, falpha, forient, fvis, fbw, fbh, fdata⟩) (g := ⟨fid, gx, gy, gw, gh, galpha, gorient, gvis, gbw, gbh, gdata⟩) fun h => e (by injection h))
  have eb : (fx == gx) = false := by rw [beq_eq_false_iff_ne]; exact e
  go_enter Tryz.func162, Tryz.ntmps162
  go_wp2_with fail
  go_ret
  exact ⟨ret_bool Hn.out.symm, HB.out⟩
 subst e
 by_cases e : fy = gy
 rotate_left
 ·have Hn := Lib.hid (ssB_no (f := ⟨fid, fx, fy, fw, fh, falpha, forient, fvis, fbw, fbh, fdata⟩) (g := ⟨fid, fx, gy, gw, gh, galpha, gorient, gvis, gbw, gbh, gdata⟩) fun h => e (by injection h))
  have eb : (fy == gy) = false := by rw [beq_eq_false_iff_ne]; exact e
  go_enter Tryz.func162, Tryz.ntmps162
  go_wp2_with fail
  go_ret
  exact ⟨ret_bool Hn.out.symm, HB.out⟩
 subst e
 by_cases e : fw = gw
 rotate_left
 ·have Hn := Lib.hid (ssB_no (f := ⟨fid, fx, fy, fw, fh, falpha, forient, fvis, fbw, fbh, fdata⟩) (g := ⟨fid, fx, fy, gw, gh, galpha, gorient, gvis, gbw, gbh, gdata⟩) fun h => e (by injection h))
  have eb : (fw == gw) = false := by rw [beq_eq_false_iff_ne]; exact e
  go_enter Tryz.func162, Tryz.ntmps162
  go_wp2_with fail
  go_ret
  exact ⟨ret_bool Hn.out.symm, HB.out⟩
 subst e
 by_cases e : fh = gh
 rotate_left
 ·have Hn := Lib.hid (ssB_no (f := ⟨fid, fx, fy, fw, fh, falpha, forient, fvis, fbw, fbh, fdata⟩) (g := ⟨fid, fx, fy, fw, gh, galpha, gorient, gvis, gbw, gbh, gdata⟩) fun h => e (by injection h))
  have eb : (fh == gh) = false := by rw [beq_eq_false_iff_ne]; exact e
  go_enter Tryz.func162, Tryz.ntmps162
  go_wp2_with fail
  go_ret
  exact ⟨ret_bool Hn.out.symm, HB.out⟩
 subst e
 by_cases e : falpha = galpha
 rotate_left
 ·have Hn := Lib.hid (ssB_no (f := ⟨fid, fx, fy, fw, fh, falpha, forient, fvis, fbw, fbh, fdata⟩) (g := ⟨fid, fx, fy, fw, fh, galpha, gorient, gvis, gbw, gbh, gdata⟩) fun h => e (by injection h))
  have eb : (falpha == galpha) = false := by rw [beq_eq_false_iff_ne]; exact e
  go_enter Tryz.func162, Tryz.ntmps162
  go_wp2_with fail
  go_ret
  exact ⟨ret_bool Hn.out.symm, HB.out⟩
 subst e
 by_cases e : forient = gorient
 rotate_left
 ·have Hn := Lib.hid (ssB_no (f := ⟨fid, fx, fy, fw, fh, falpha, forient, fvis, fbw, fbh, fdata⟩) (g := ⟨fid, fx, fy, fw, fh, falpha, gorient, gvis, gbw, gbh, gdata⟩) fun h => e (by injection h))
  have eb : (forient == gorient) = false := by rw [beq_eq_false_iff_ne]; exact e
  go_enter Tryz.func162, Tryz.ntmps162
  go_wp2_with fail
  go_ret
  exact ⟨ret_bool Hn.out.symm, HB.out⟩
 subst e
 by_cases e : fvis = gvis
 rotate_left
 ·have Hn := Lib.hid (ssB_no (f := ⟨fid, fx, fy, fw, fh, falpha, forient, fvis, fbw, fbh, fdata⟩) (g := ⟨fid, fx, fy, fw, fh, falpha, forient, gvis, gbw, gbh, gdata⟩) fun h => e (by injection h))
  cases fvis <;> cases gvis
  ·exact absurd rfl e
  ·clear e
   go_enter Tryz.func162, Tryz.ntmps162
   go_wp2_with fail
   go_ret
   exact ⟨ret_bool Hn.out.symm, HB.out⟩
  ·clear e
   go_enter Tryz.func162, Tryz.ntmps162
   go_wp2_with fail
   go_ret
   exact ⟨ret_bool Hn.out.symm, HB.out⟩
  ·exact absurd rfl e
 subst e
 rw [ssB_im (i := fid) (x := fx) (y := fy) (w := fw) (h := fh) (a := falpha) (o := forient) (v := fvis)] at HC
 go_enter Tryz.func162, Tryz.ntmps162
 go_wp2_with fail
 refine HC.out.mono ?_
 rintro e w1 ⟨rfl, hb⟩
 go_wp2_with fail
 go_ret
 exact ⟨rfl, belI_call HB.out hb⟩
end Go.Proofs.YtnndifemkichmaaGreat
