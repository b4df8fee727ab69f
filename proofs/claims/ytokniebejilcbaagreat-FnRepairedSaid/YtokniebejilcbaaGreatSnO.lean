/- The contracts of opaque pixels and of SceneOk, of the program and of its model. No statement is proved here. -/
import Derived.Test.YtokniebejilcbaaGreatMA
import Derived.Test.YtokniebejilcbaaGreatMC
import Derived.Test.YtokniebejilcbaaGreatSfO
import Derived.Test.YtokniebejilcbaaGreatProg
import Derived.WalkKit
import Derived.ProofKit
import Derived.OpenShut
import Derived.WalkLawsBesides
import Derived.WalkSpells
import Derived.ShutString
import Derived.ChangeOld
import Derived.Below
import Derived.Lib.Hide
import Derived.BigQuiet
import Derived.Deep.QuietTactic
import Derived.Maps.AppendAt
import Derived.Deep.OwnRows
import Derived.Handy
import Derived.Deep.Draws
import Derived.OwnWalk
import Derived.Deep.AppendLies
import Derived.Deep.LoopGhost
import Derived.Deep.Onto
import Derived.Deep.MidRow
import Derived.Deep.WholeRow
import Derived.Laws.BitsAllLaws
import Derived.Lib.QuoteBits
import Derived.Deep.RegionHeld3
import Derived.Deep.DeepCutAuto
namespace Go.Proofs.YtokniebejilcbaaGreat
open Go.RowKit
theorem opqB_ch {p : Int} : opqB p = (chan p 0 == 255) := by
 by_cases h : opq p
 ·rw [opqB_yes h, chan_0 h.1, h.2]; rfl
 ·rw [opqB_no h]
  by_cases hp : pixOk p
  ·rw [chan_0 hp]
   have : ¬ p / 16777216 = 255 := fun e => h ⟨hp, e⟩
   simp [this]
  ·rw [chan_no fun e => hp e.1]; rfl
theorem opqI (p : Int) (w : World) : Calls Tryz.prog 139 #[.int .i64 p] w fun e w' => e = .returned (.bool (opqB p)) ∧ Below w.heap.size w w' := by
 have Hq := Lib.hid (opqB_ch (p := p))
 obtain ⟨c, hc⟩ : ∃ c, c = chan p 0 := ⟨_, rfl⟩
 have HK := fun W => chI_any p 0 W
 rw [← hc] at HK Hq
 have HK := Lib.hid HK
 clear hc
 go_enter Tryz.func139, Tryz.ntmps139
 go_wp2_with fail
 refine (HK.out _).mono ?_
 rintro e w' ⟨rfl, hb⟩
 go_wp2_with fail
 go_ret
 exact ⟨ret_bool Hq.out.symm, hb⟩
theorem opqS (p : Int) (w : World) : Calls Tryz.prog 151 #[.int .i64 p] w fun e w' => e = .returned (.bool (opqB p)) ∧ Below w.heap.size w w' := by
 by_cases hp : pixOk p
 ·have Hq := Lib.hid (opqB_ch (p := p))
  obtain ⟨c, hc⟩ : ∃ c, c = chan p 0 := ⟨_, rfl⟩
  have HK := fun W => chS_any p 0 W
  rw [← hc] at HK Hq
  have HK := Lib.hid HK
  have Hp := Lib.hid hp
  clear hc hp
  go_enter Tryz.func151, Tryz.ntmps151
  go_wp2_with fail
  refine (pixS_yes _ Hp.out _).mono ?_
  rintro e w' ⟨rfl, rfl⟩
  go_wp2_with fail
  refine (HK.out _).mono ?_
  rintro e w' ⟨rfl, rfl⟩
  go_wp2_with fail
  go_ret
  exact ⟨ret_bool Hq.out.symm, Below.refl _ _⟩
 ·have Hq := Lib.hid (opqB_no (p := p) fun h => hp h.1)
  have Hp := Lib.hid hp
  clear hp
  go_enter Tryz.func151, Tryz.ntmps151
  go_wp2_with fail
  refine (pixS_no _ Hp.out _).mono ?_
  rintro e w' ⟨rfl, rfl⟩
  go_wp2_with fail
  go_ret
  exact ⟨ret_bool Hq.out.symm, Below.refl _ _⟩
def SnOkAns (s : Sn) (w : World) (e : Ending) (w' : World) : Prop := e = .returned (.bool (snB s)) ∧ Below w.heap.size w w'
set_option maxHeartbeats 2000000 in
set_option maxRecDepth 10000 in
theorem snI (s : Sn) (v : Value) (bs : List Nat) (w : World) (h : repSfs.R w s.fs [v] bs) :
  Calls Tryz.prog 65 #[.agg #[.int .i64 s.w, .int .i64 s.h, .int .i64 s.back, v]] w (SnOkAns s w) := by
 have hA := SnA.born h
 have hB := belI_box w (.cells #[.int .i64 s.w, .int .i64 s.h, .int .i64 s.back, v] 34)
 obtain ⟨⟨A, c, rfl⟩, hm⟩ := repSfs_form h
 obtain ⟨n, hn⟩ : ∃ n, n = s.fs.length := ⟨_, rfl⟩
 rw [← hn] at hA hB hm ⊢
 unfold maxLen at hm
 have Hn := Lib.hid hn
 obtain ⟨d0, d1, d2, d3⟩ := hA.cells
 clear h hn
 by_cases h0 : szOk s.w s.h
 ·have H0 := Lib.hid h0
  clear h0
  have HO := Lib.hid (fun W => opqI s.back W)
  by_cases h1 : opq s.back
  ·have H1 := Lib.hid h1
   rw [opqB_yes h1] at HO
   clear h1
   by_cases h2 : n ≤ 6
   ·have H2 := Lib.hid h2
    go_enter Tryz.func65, Tryz.ntmps65
    go_wp2_with fail
    refine (szI_yes _ _ H0.out _).mono ?_
    rintro e w' ⟨rfl, rfl⟩
    go_wp2_with fail
    refine (HO.out _).mono ?_
    rintro e w1 ⟨rfl, hb⟩
    replace hA := hA.call hb
    replace hB := belI_call hB hb
    clear d0 d1 d2 d3 hb
    obtain ⟨d0, d1, d2, d3⟩ := hA.cells
    go_wp2_with fail
    clear d0 d1 d2 d3
    go_loopw [3, 4, 26] (fun s3 s4 s26 wr => ∃ k : Nat, k ≤ n ∧ s26 = .int .i64 k ∧ Hid (∀ (j : Nat) (g : Sf), j < k → s.fs[j]? = some g → sfOk g ∧ idxF s.fs g.id = j) ∧ SnA w.heap.size s (.slice A n c) bs wr ∧ Hid (Below w.heap.size w wr)) (fun _ _ s26 _ => n - (intOf s26).toNat)
    case atStart => exact ⟨0, Nat.zero_le _, rfl, Lib.hid (fun j x h => by omega), hA, Lib.hid hB⟩
    case round =>
     clear hA hB
     obtain ⟨k, hk, rfl, Hall, hA, HB⟩ := hrel
     by_cases hlt : k < n
     ·obtain ⟨g, f, d, rfl, hf, hC, hd⟩ := repSfs_at hA.r (k := k) (by rw [← Hn.out]; exact hlt)
      have Hf := Lib.hid hf
      obtain ⟨c0, c1, c2, c3, c4, c5, c6, c7, c8, c9, c10⟩ := hC
      have k0 : (0 : Int) ≤ (k : Int) := by omega
      have k1 : (k : Int) < (n : Int) := by omega
      obtain ⟨A', c', rfl⟩ := hd.form
      have HC := Lib.hid (fun (o : Obj) => sfI f _ _ (hd.alloc o))
      have hX := BkAt.new wr 153 #[.int .i64 f.id, .int .i64 f.x, .int .i64 f.y, .int .i64 f.w, .int .i64 f.h, .int .i64 f.alpha, .int .i64 f.orient, .bool f.vis, .int .i64 f.bw, .int .i64 f.bh, .slice A' f.data.length c']
      have hb0 := belI_box wr (.cells #[.int .i64 f.id, .int .i64 f.x, .int .i64 f.y, .int .i64 f.w, .int .i64 f.h, .int .i64 f.alpha, .int .i64 f.orient, .bool f.vis, .int .i64 f.bw, .int .i64 f.bh, .slice A' f.data.length c'] 153)
      replace hA := hA.call hb0
      have hB := belI_call HB.out hb0
      clear hf hd hb0 HB
      unfold SfOkAns at HC
      by_cases hs : sfOk f
      ·have Hs := Lib.hid hs
       rw [sfB_yes hs] at HC
       clear hs
       go_wp2_with fail
       refine (HC.out _).mono ?_
       rintro e w2 ⟨rfl, hb⟩
       replace hA := hA.call hb
       replace hX := hX.call hb
       replace hB := belI_call hB hb
       clear c0 c1 c2 c3 c4 c5 c6 c7 c8 c9 c10 hb
       have e0 := hX.cell 0 rfl
       obtain ⟨d0, d1, d2, d3⟩ := hA.cells
       have HI := Lib.hid (idxI s f.id _ bs _ hA.r)
       unfold IdxAns at HI
       obtain ⟨q, hq⟩ : ∃ q, q = idxF s.fs f.id := ⟨_, rfl⟩
       rw [← hq] at HI
       have Hq := Lib.hid hq
       clear hq
       by_cases hk2 : q = (k : Int)
       ·subst hk2
        go_wp2_with fail
        refine HI.out.mono ?_
        rintro e w3 ⟨rfl, hb⟩
        replace hA := hA.call hb
        replace hB := belI_call hB hb
        clear d0 d1 d2 d3 e0 hX hb
        go_wp2_with fail
        go_roundw
        case rel =>
         refine ⟨k + 1, by omega, by go_num, Lib.hid (fun j y hj hy => ?_), hA, Lib.hid hB⟩
         by_cases e : j < k
         ·exact Hall.out j y e hy
         ·obtain rfl : j = k := by omega
          rw [Hf.out] at hy
          rw [← Option.some.inj hy]
          exact ⟨Hs.out, Hq.out.symm⟩
        case measure => simp [intOf]; omega
       ·have Hno := Lib.hid (snB_no fun h : snOk s => hk2 (Hq.out.trans (h.2.2.2 k f Hf.out).2))
        go_wp2_with fail
        refine HI.out.mono ?_
        rintro e w3 ⟨rfl, hb⟩
        replace hB := belI_call hB hb
        clear d0 d1 d2 d3 e0 hX hb
        go_wp2_with fail
        go_ret
        exact ⟨ret_bool Hno.out.symm, hB⟩
      ·have Hno := Lib.hid (snB_no fun h : snOk s => hs (h.2.2.2 k f Hf.out).1)
       rw [sfB_no hs] at HC
       clear hs
       go_wp2_with fail
       refine (HC.out _).mono ?_
       rintro e w2 ⟨rfl, hb⟩
       replace hB := belI_call hB hb
       clear c0 c1 c2 c3 c4 c5 c6 c7 c8 c9 c10 hb hX
       go_wp2_with fail
       go_ret
       exact ⟨ret_bool Hno.out.symm, hB⟩
     ·obtain rfl : k = n := by omega
      have Hy := Lib.hid (snB_yes (s := s) ⟨H0.out, H1.out, by rw [← Hn.out]; exact H2.out, fun j g hj => Hall.out j g (by rw [Hn.out]; exact (List.getElem?_eq_some_iff.1 hj).1) hj⟩)
      go_wp2_with fail
      go_ret
      exact ⟨ret_bool Hy.out.symm, HB.out⟩
   ·have Hno := Lib.hid (snB_no fun h : snOk s => h2 (by rw [Hn.out]; exact h.2.2.1))
    go_enter Tryz.func65, Tryz.ntmps65
    go_wp2_with fail
    refine (szI_yes _ _ H0.out _).mono ?_
    rintro e w' ⟨rfl, rfl⟩
    go_wp2_with fail
    refine (HO.out _).mono ?_
    rintro e w1 ⟨rfl, hb⟩
    replace hA := hA.call hb
    replace hB := belI_call hB hb
    clear d0 d1 d2 d3 hb
    obtain ⟨d0, d1, d2, d3⟩ := hA.cells
    go_wp2_with fail
    go_ret
    exact ⟨ret_bool Hno.out.symm, hB⟩
  ·have Hno := Lib.hid (snB_no fun h : snOk s => h1 h.2.1)
   rw [opqB_no h1] at HO
   clear h1
   go_enter Tryz.func65, Tryz.ntmps65
   go_wp2_with fail
   refine (szI_yes _ _ H0.out _).mono ?_
   rintro e w' ⟨rfl, rfl⟩
   go_wp2_with fail
   refine (HO.out _).mono ?_
   rintro e w1 ⟨rfl, hb⟩
   replace hB := belI_call hB hb
   clear d0 d1 d2 d3 hb
   go_wp2_with fail
   go_ret
   exact ⟨ret_bool Hno.out.symm, hB⟩
 ·have Hno := Lib.hid (snB_no fun h : snOk s => h0 h.1)
  have H0 := Lib.hid h0
  clear h0
  go_enter Tryz.func65, Tryz.ntmps65
  go_wp2_with fail
  refine (szI_no _ _ H0.out _).mono ?_
  rintro e w' ⟨rfl, rfl⟩
  go_wp2_with fail
  go_ret
  exact ⟨ret_bool Hno.out.symm, hB⟩
end Go.Proofs.YtokniebejilcbaaGreat
