/- The walk of the law FnBlending: it returns true for every code. -/
import Derived.Test.YtfehdcenmncbpaaBase
import Derived.Test.YtfehdcenmncbpaaRd
import Derived.Test.YtfehdcenmncbpaaIntR
import Derived.Test.YtfehdcenmncbpaaPixM
import Derived.Test.YtfehdcenmncbpaaPixS
import Derived.Test.YtfehdcenmncbpaaPixI
import Derived.Test.YtfehdcenmncbpaaPixA
import Derived.Test.YtfehdcenmncbpaaPixB
import Derived.Test.YtfehdcenmncbpaaOverS
import Derived.Test.YtfehdcenmncbpaaOverI
import Derived.Test.YtfehdcenmncbpaaBlend
import Derived.Test.YtfehdcenmncbpaaBlendM
import Derived.Test.YtfehdcenmncbpaaCurC
import Derived.Test.YtfehdcenmncbpaaPixD
import Derived.Test.YtfehdcenmncbpaaBig
import Derived.Test.YtfehdcenmncbpaaProg
import Derived.WalkKit
import Derived.ProofKit
import Derived.OpenShut
import Derived.WalkLawsBesides
import Derived.WalkSpells
import Derived.ShutString
import Derived.ChangeOld
import Derived.Below
import Derived.Lib.Hide
import Derived.Laws.BitsAllLaws
import Derived.Lib.QuoteBits
import Derived.Deep.RegionHeld3
import Derived.BigQuiet
import Derived.Deep.QuietTactic
import Derived.Maps.AppendAt
import Derived.Deep.OwnRows
import Derived.Handy
import Derived.ChangeKeysEq
namespace Go.Proofs.Ytfehdcenmncbpaa
open Go.RowKit
set_option maxHeartbeats 1000000 in
theorem walk_FnBlending (a : Option Addr) (len cap : Nat) (zs : List Int) (w : World) (hrow : IsRow .u8 w a len cap zs) :
    Calls Try.prog 11 #[.slice a len cap] w fun e w' => e = .returned (.bool true) ∧ Below w.heap.size w w' := by
  by_cases hbig : len ≤ 1048576
  · go_enter Try.func11, Try.ntmps11
    go_wp2_with fail
    refine (big_no _ _ _ _ hbig).mono ?_
    rintro e w1 ⟨rfl, rfl⟩
    go_wp2_with fail
    refine (drawPixels_any _ _ _ _ zs hrow).mono ?_
    rintro e w1 ⟨p, q, rfl, hp, hq, K⟩
    clear hrow hbig
    obtain ⟨r, hr⟩ : ∃ r, r = over p q := ⟨_, rfl⟩
    have CO := overI_any p q
    rw [← hr] at CO
    have hro : r = overK p q := hr.trans (over_yes hp hq)
    have hrp : pixOk r := by rw [hro]; exact overK_ok hp q
    have e1 : chan r 1 = mixC (p / 65536 % 256) (q / 65536 % 256) (p / 16777216) := by
      rw [chan_1 hrp, hro]; exact pack_1 (mix_ok (ch_1 p) (ch_1 q) (ch_0 hp)) (mix_ok (ch_2 p) (ch_2 q) (ch_0 hp)) (mix_ok (ch_3 p) (ch_3 q) (ch_0 hp))
    have e2 : chan r 2 = mixC (p / 256 % 256) (q / 256 % 256) (p / 16777216) := by
      rw [chan_2 hrp, hro]; exact pack_2 (mix_ok (ch_2 p) (ch_2 q) (ch_0 hp)) (mix_ok (ch_3 p) (ch_3 q) (ch_0 hp))
    have e3 : chan r 3 = mixC (p % 256) (q % 256) (p / 16777216) := by
      rw [chan_3 hrp, hro]; exact pack_3 (mix_ok (ch_3 p) (ch_3 q) (ch_0 hp))
    have e0 : chan r 0 = 255 := by
      rw [chan_0 hrp, hro]; exact pack_0 (mix_ok (ch_1 p) (ch_1 q) (ch_0 hp)) (mix_ok (ch_2 p) (ch_2 q) (ch_0 hp)) (mix_ok (ch_3 p) (ch_3 q) (ch_0 hp))
    obtain ⟨x1, hx1⟩ : ∃ x, x = p / 65536 % 256 := ⟨_, rfl⟩
    obtain ⟨x2, hx2⟩ : ∃ x, x = p / 256 % 256 := ⟨_, rfl⟩
    obtain ⟨x3, hx3⟩ : ∃ x, x = p % 256 := ⟨_, rfl⟩
    obtain ⟨y1, hy1⟩ : ∃ x, x = q / 65536 % 256 := ⟨_, rfl⟩
    obtain ⟨y2, hy2⟩ : ∃ x, x = q / 256 % 256 := ⟨_, rfl⟩
    obtain ⟨y3, hy3⟩ : ∃ x, x = q % 256 := ⟨_, rfl⟩
    have X1 : Hid (chOk x1) := by rw [hx1]; exact ch_1 p
    have X2 : Hid (chOk x2) := by rw [hx2]; exact ch_2 p
    have X3 : Hid (chOk x3) := by rw [hx3]; exact ch_3 p
    have Y1 : Hid (chOk y1) := by rw [hy1]; exact ch_1 q
    have Y2 : Hid (chOk y2) := by rw [hy2]; exact ch_2 q
    have Y3 : Hid (chOk y3) := by rw [hy3]; exact ch_3 q
    have P1 := chI_any p 1
    have P2 := chI_any p 2
    have P3 := chI_any p 3
    have Q1 := chI_any q 1
    have Q2 := chI_any q 2
    have Q3 := chI_any q 3
    rw [chan_1 hp, ← hx1] at P1
    rw [chan_2 hp, ← hx2] at P2
    rw [chan_3 hp, ← hx3] at P3
    rw [chan_1 hq, ← hy1] at Q1
    rw [chan_2 hq, ← hy2] at Q2
    rw [chan_3 hq, ← hy3] at Q3
    have R0 := chI_any r 0
    have R1 := chI_any r 1
    have R2 := chI_any r 2
    have R3 := chI_any r 3
    rw [e0] at R0
    rw [e1, ← hx1, ← hy1] at R1
    rw [e2, ← hx2, ← hy2] at R2
    rw [e3, ← hx3, ← hy3] at R3
    obtain ⟨al, hal⟩ : ∃ al, al = p / 16777216 := ⟨_, rfl⟩
    have hka : chOk al := by rw [hal]; exact ch_0 hp
    rw [← hal] at R1 R2 R3
    have b1 := mix_bd X1.out Y1.out hka (@min_le' x1 y1).1 (@min_le' x1 y1).2.1 (@min_le' x1 y1).2.2.1 (@min_le' x1 y1).2.2.2
    have b2 := mix_bd X2.out Y2.out hka (@min_le' x2 y2).1 (@min_le' x2 y2).2.1 (@min_le' x2 y2).2.2.1 (@min_le' x2 y2).2.2.2
    have b3 := mix_bd X3.out Y3.out hka (@min_le' x3 y3).1 (@min_le' x3 y3).2.1 (@min_le' x3 y3).2.2.1 (@min_le' x3 y3).2.2.2
    obtain ⟨z1, hz1⟩ : ∃ z, z = mixC x1 y1 al := ⟨_, rfl⟩
    obtain ⟨z2, hz2⟩ : ∃ z, z = mixC x2 y2 al := ⟨_, rfl⟩
    obtain ⟨z3, hz3⟩ : ∃ z, z = mixC x3 y3 al := ⟨_, rfl⟩
    rw [← hz1] at b1 R1
    rw [← hz2] at b2 R2
    rw [← hz3] at b3 R3
    obtain ⟨m, hm⟩ : ∃ m, m = pack4 255 x1 x2 x3 := ⟨_, rfl⟩
    obtain ⟨n, hn⟩ : ∃ n, n = pack4 255 y1 y2 y3 := ⟨_, rfl⟩
    have MA := mkI_any 255 x1 x2 x3
    have MB := mkI_any 255 y1 y2 y3
    rw [mk_yes ch_255 X1.out X2.out X3.out, ← hm] at MA
    rw [mk_yes ch_255 Y1.out Y2.out Y3.out, ← hn] at MB
    have OA := overI_any m q
    have hoa : over m q = m := by rw [hm]; exact over_op X1.out X2.out X3.out hq
    rw [hoa] at OA
    obtain ⟨f, hf⟩ : ∃ f, f = fade p 0 := ⟨_, rfl⟩
    have FA := fadeI_any p 0
    rw [← hf] at FA
    have OB := overI_any f n
    have hob : over f n = n := by rw [hf, fade_0 hp, hn]; exact over_cl (ch_1 p) (ch_2 p) (ch_3 p) Y1.out Y2.out Y3.out
    rw [hob] at OB
    have FB := fadeI_any p 255
    rw [fade_255 hp] at FB
    have BL := fun v W h => blendI_any v [p, m] q W h
    have hbl : blend [p, m] q = m := by
      rw [blend_yes hq]
      show over m (over p q) = m
      rw [← hr, hm]
      exact over_op X1.out X2.out X3.out hrp
    rw [hbl] at BL
    have HCO := Lib.hid CO
    have HP1 := Lib.hid P1
    have HP2 := Lib.hid P2
    have HP3 := Lib.hid P3
    have HQ1 := Lib.hid Q1
    have HQ2 := Lib.hid Q2
    have HQ3 := Lib.hid Q3
    have HR0 := Lib.hid R0
    have HR1 := Lib.hid R1
    have HR2 := Lib.hid R2
    have HR3 := Lib.hid R3
    have HMA := Lib.hid MA
    have HMB := Lib.hid MB
    have HOA := Lib.hid OA
    have HFA := Lib.hid FA
    have HOB := Lib.hid OB
    have HFB := Lib.hid FB
    have HBL := Lib.hid BL
    have B1 := Lib.hid b1
    have B2 := Lib.hid b2
    have B3 := Lib.hid b3
    clear CO P1 P2 P3 Q1 Q2 Q3 R0 R1 R2 R3 MA MB OA FA OB FB BL b1 b2 b3 hr hro hrp e0 e1 e2 e3 hx1 hx2 hx3 hy1 hy2 hy3 hal hka hz1 hz2 hz3 hm hn hoa hf hob hbl hp hq
    go_wp2_with fail
    refine (HCO.out _).mono ?_
    rintro e w2 ⟨rfl, hb⟩
    replace K := px_call K hb
    clear hb
    go_wp2_with fail
    go_loopw [6] (fun i wr => (i = .int .i64 1 ∨ i = .int .i64 2 ∨ i = .int .i64 3 ∨ i = .int .i64 4) ∧ Below w.heap.size w wr) (fun i _ => 4 - (intOf i).toNat)
    case atStart => exact ⟨.inl rfl, K⟩
    case round =>
      clear K
      obtain ⟨hi, K⟩ := hrel
      rcases hi with rfl | rfl | rfl | rfl
      · obtain ⟨xl, xh⟩ := X1.out
        obtain ⟨yl, yh⟩ := Y1.out
        obtain ⟨zl, zh⟩ := B1.out
        obtain ⟨mn, hmn⟩ : ∃ t, t = min x1 y1 := ⟨_, rfl⟩
        obtain ⟨mx, hmx⟩ : ∃ t, t = max x1 y1 := ⟨_, rfl⟩
        rw [← hmn] at zl
        rw [← hmx] at zh
        have n0 : 0 ≤ mn := by omega
        have n1 : mn ≤ 255 := by omega
        have n2 : 0 ≤ mx := by omega
        have n3 : mx ≤ 255 := by omega
        have imn : (if y1 < x1 then y1 else x1) = mn := by split <;> omega
        have imx : (if x1 < y1 then y1 else x1) = mx := by split <;> omega
        clear hmn hmx
        go_wp2_with fail
        refine (HP1.out _).mono ?_
        rintro e wj ⟨rfl, hb⟩
        replace K := px_call K hb
        clear hb
        go_wp2_with fail
        refine (HQ1.out _).mono ?_
        rintro e wj ⟨rfl, hb⟩
        replace K := px_call K hb
        clear hb
        go_wp2_with fail
        refine (HR1.out _).mono ?_
        rintro e wj ⟨rfl, hb⟩
        replace K := px_call K hb
        clear hb
        go_wp2_with fail
        go_roundw
        case rel => exact ⟨.inr (.inl rfl), K⟩
        case measure => simp [intOf]
      · obtain ⟨xl, xh⟩ := X2.out
        obtain ⟨yl, yh⟩ := Y2.out
        obtain ⟨zl, zh⟩ := B2.out
        obtain ⟨mn, hmn⟩ : ∃ t, t = min x2 y2 := ⟨_, rfl⟩
        obtain ⟨mx, hmx⟩ : ∃ t, t = max x2 y2 := ⟨_, rfl⟩
        rw [← hmn] at zl
        rw [← hmx] at zh
        have n0 : 0 ≤ mn := by omega
        have n1 : mn ≤ 255 := by omega
        have n2 : 0 ≤ mx := by omega
        have n3 : mx ≤ 255 := by omega
        have imn : (if y2 < x2 then y2 else x2) = mn := by split <;> omega
        have imx : (if x2 < y2 then y2 else x2) = mx := by split <;> omega
        clear hmn hmx
        go_wp2_with fail
        refine (HP2.out _).mono ?_
        rintro e wj ⟨rfl, hb⟩
        replace K := px_call K hb
        clear hb
        go_wp2_with fail
        refine (HQ2.out _).mono ?_
        rintro e wj ⟨rfl, hb⟩
        replace K := px_call K hb
        clear hb
        go_wp2_with fail
        refine (HR2.out _).mono ?_
        rintro e wj ⟨rfl, hb⟩
        replace K := px_call K hb
        clear hb
        go_wp2_with fail
        go_roundw
        case rel => exact ⟨.inr (.inr (.inl rfl)), K⟩
        case measure => simp [intOf]
      · obtain ⟨xl, xh⟩ := X3.out
        obtain ⟨yl, yh⟩ := Y3.out
        obtain ⟨zl, zh⟩ := B3.out
        obtain ⟨mn, hmn⟩ : ∃ t, t = min x3 y3 := ⟨_, rfl⟩
        obtain ⟨mx, hmx⟩ : ∃ t, t = max x3 y3 := ⟨_, rfl⟩
        rw [← hmn] at zl
        rw [← hmx] at zh
        have n0 : 0 ≤ mn := by omega
        have n1 : mn ≤ 255 := by omega
        have n2 : 0 ≤ mx := by omega
        have n3 : mx ≤ 255 := by omega
        have imn : (if y3 < x3 then y3 else x3) = mn := by split <;> omega
        have imx : (if x3 < y3 then y3 else x3) = mx := by split <;> omega
        clear hmn hmx
        go_wp2_with fail
        refine (HP3.out _).mono ?_
        rintro e wj ⟨rfl, hb⟩
        replace K := px_call K hb
        clear hb
        go_wp2_with fail
        refine (HQ3.out _).mono ?_
        rintro e wj ⟨rfl, hb⟩
        replace K := px_call K hb
        clear hb
        go_wp2_with fail
        refine (HR3.out _).mono ?_
        rintro e wj ⟨rfl, hb⟩
        replace K := px_call K hb
        clear hb
        go_wp2_with fail
        go_roundw
        case rel => exact ⟨.inr (.inr (.inr rfl)), K⟩
        case measure => simp [intOf]
      · go_wp2_with fail
        refine (HP1.out _).mono ?_
        rintro e wj ⟨rfl, hb⟩
        replace K := px_call K hb
        clear hb
        go_wp2_with fail
        refine (HP2.out _).mono ?_
        rintro e wj ⟨rfl, hb⟩
        replace K := px_call K hb
        clear hb
        go_wp2_with fail
        refine (HP3.out _).mono ?_
        rintro e wj ⟨rfl, hb⟩
        replace K := px_call K hb
        clear hb
        go_wp2_with fail
        refine (HMA.out _).mono ?_
        rintro e wj ⟨rfl, hb⟩
        replace K := px_call K hb
        clear hb
        go_wp2_with fail
        refine (HQ1.out _).mono ?_
        rintro e wj ⟨rfl, hb⟩
        replace K := px_call K hb
        clear hb
        go_wp2_with fail
        refine (HQ2.out _).mono ?_
        rintro e wj ⟨rfl, hb⟩
        replace K := px_call K hb
        clear hb
        go_wp2_with fail
        refine (HQ3.out _).mono ?_
        rintro e wj ⟨rfl, hb⟩
        replace K := px_call K hb
        clear hb
        go_wp2_with fail
        refine (HMB.out _).mono ?_
        rintro e wj ⟨rfl, hb⟩
        replace K := px_call K hb
        clear hb
        go_wp2_with fail
        refine (HR0.out _).mono ?_
        rintro e wj ⟨rfl, hb⟩
        replace K := px_call K hb
        clear hb
        go_wp2_with fail
        refine (HOA.out _).mono ?_
        rintro e wj ⟨rfl, hb⟩
        replace K := px_call K hb
        clear hb
        go_wp2_with fail
        refine (HFA.out _).mono ?_
        rintro e wj ⟨rfl, hb⟩
        replace K := px_call K hb
        clear hb
        go_wp2_with fail
        refine (HOB.out _).mono ?_
        rintro e wj ⟨rfl, hb⟩
        replace K := px_call K hb
        clear hb
        go_wp2_with fail
        refine (HFB.out _).mono ?_
        rintro e wl ⟨rfl, hb⟩
        replace K := px_call K hb
        clear hb
        have hR := rd_built wl [p, m] 3 #[.int .i64 p, .int .i64 m] rfl (by simp)
        have HR := Lib.hid hR
        have hsz := K.size
        clear hR
        go_wp2_with fail
        refine (HBL.out _ _ HR.out).mono ?_
        rintro e wk ⟨rfl, hb⟩
        replace K := px_call (K.alloc hsz _) hb
        clear hb
        go_wp2_with fail
        go_ret
        exact ⟨rfl, K⟩
  · go_enter Try.func11, Try.ntmps11
    go_wp2_with fail
    refine (big_yes _ _ _ _ (by omega)).mono ?_
    rintro e w1 ⟨rfl, rfl⟩
    go_wp2_with fail
    go_ret
    exact ⟨rfl, Below.refl _ _⟩
end Go.Proofs.Ytfehdcenmncbpaa
