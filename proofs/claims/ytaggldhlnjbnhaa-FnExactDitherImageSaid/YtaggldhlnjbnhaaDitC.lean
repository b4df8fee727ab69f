/- The contracts of DitherPixel, LevelOf and PictureOk, of the program and of its model. No statement is proved here. -/
import Derived.Test.YtaggldhlnjbnhaaBase
import Derived.Test.YtaggldhlnjbnhaaRd
import Derived.Test.YtaggldhlnjbnhaaIntR
import Derived.Test.YtaggldhlnjbnhaaImR
import Derived.Test.YtaggldhlnjbnhaaRectC
import Derived.Test.YtaggldhlnjbnhaaPixM
import Derived.Test.YtaggldhlnjbnhaaPixC
import Derived.Test.YtaggldhlnjbnhaaImO
import Derived.Test.YtaggldhlnjbnhaaDitM
import Derived.Test.YtaggldhlnjbnhaaImV
import Derived.Test.YtaggldhlnjbnhaaBlk4
import Derived.Test.YtaggldhlnjbnhaaRectEq
import Derived.Test.YtaggldhlnjbnhaaLaw
import Derived.Test.YtaggldhlnjbnhaaThrC
import Derived.Test.YtaggldhlnjbnhaaPixS
import Derived.Test.YtaggldhlnjbnhaaPixI
import Derived.Test.YtaggldhlnjbnhaaPixA
import Derived.Test.YtaggldhlnjbnhaaProg
import Derived.WalkKit
import Derived.ProofKit
import Derived.OpenShut
import Derived.WalkLawsBesides
import Derived.WalkSpells
import Derived.ShutString
import Derived.ChangeOld
import Derived.Below
import Derived.Lib.Hide
import Derived.Laws.BitsAllLaws
import Derived.Lib.QuoteBits
import Derived.BigQuiet
import Derived.Deep.QuietTactic
import Derived.Maps.AppendAt
import Derived.Deep.OwnRows
import Derived.Handy
import Derived.Deep.Draws
import Derived.OwnWalk
import Derived.Deep.AppendLies
import Derived.Deep.LoopGhost
import Derived.Deep.Onto
import Derived.Deep.RegionHeld3
import Derived.Deep.DeepCutAuto
import Derived.Test.YtaggldhlnjbnhaaShelf
import Derived.Laws.CopyOwn
import Derived.Deep.RegionLaw
import Derived.Great.BuildSlice
import Derived.Deep.MidRow
import Derived.Deep.WholeRow
import Derived.Carry
import Derived.Maps.Own
namespace Go.Proofs.Ytaggldhlnjbnhaa
open Go.RowKit
theorem lev_join {a b c : Int} (ha : 0 ≤ a ∧ a ≤ 63) (hb : 0 ≤ b ∧ b ≤ 63) (hc : 0 ≤ c ∧ c ≤ 63) :
    bits .or .i64 (a * 64) b = a * 64 + b ∧ bits .or .i64 ((a * 64 + b) * 64) c = a * 4096 + b * 64 + c := by
  refine ⟨or_join 6 (a * 64) b (by omega) (by omega) (by omega) (by omega) (by omega) (by omega), ?_⟩
  rw [or_join 6 ((a * 64 + b) * 64) c (by omega) (by omega) (by omega) (by omega) (by omega) (by omega)]
  omega
set_option maxHeartbeats 2000000 in
theorem dpxI (p x y : Int) (w : World) : Calls Try.prog 23 #[.int .i64 p, .int .i64 x, .int .i64 y] w fun e w' => e = .returned (.int .i64 (dotV p x y)) ∧ Below w.heap.size w w' := by
  by_cases hp : pixOk p
  · obtain ⟨t, ht⟩ : ∃ t, t = thr x y := ⟨_, rfl⟩
    obtain ⟨t0, t1⟩ : 0 ≤ t ∧ t ≤ 3 := by rw [ht]; exact thr_bd x y
    have HT := Lib.hid (thrI x y)
    rw [← ht] at HT
    have HU := Lib.hid (unpackedI p hp)
    obtain ⟨r, hr⟩ : ∃ r, r = p / 65536 % 256 := ⟨_, rfl⟩
    obtain ⟨g, hg⟩ : ∃ g, g = p / 256 % 256 := ⟨_, rfl⟩
    obtain ⟨b, hb⟩ : ∃ b, b = p % 256 := ⟨_, rfl⟩
    obtain ⟨a, ha⟩ : ∃ a, a = p / 16777216 := ⟨_, rfl⟩
    have cr : chOk r := by rw [hr]; exact ch_1 p
    have cg : chOk g := by rw [hg]; exact ch_2 p
    have cb : chOk b := by rw [hb]; exact ch_3 p
    have hV : dotV p x y = lev r t * 4096 + lev g t * 64 + lev b t := by rw [dotV_yes hp, ← ht, hr, hg, hb]; rfl
    rw [← hr, ← hg, ← hb, ← ha] at HU
    have hlr := lev_bd cr t0 t1
    have hlg := lev_bd cg t0 t1
    have hlb := lev_bd cb t0 t1
    have HR := Lib.hid (dlvI r t cr t0 t1)
    have HG := Lib.hid (dlvI g t cg t0 t1)
    have HB := Lib.hid (dlvI b t cb t0 t1)
    obtain ⟨l1, e1⟩ : ∃ l, l = lev r t := ⟨_, rfl⟩
    obtain ⟨l2, e2⟩ : ∃ l, l = lev g t := ⟨_, rfl⟩
    obtain ⟨l3, e3⟩ : ∃ l, l = lev b t := ⟨_, rfl⟩
    rw [← e1] at HR hV hlr
    rw [← e2] at HG hV hlg
    rw [← e3] at HB hV hlb
    obtain ⟨o2, o3⟩ := lev_join hlr hlg hlb
    have o1 : bits .or .i64 0 l1 = l1 := by have := or_join 6 0 l1 (by omega) (by omega) (by omega) (by omega) (by omega) (by omega); omega
    obtain ⟨a0, a1⟩ := hlr
    obtain ⟨b0, b1⟩ := hlg
    have HV := Lib.hid hV
    have HO2 := Lib.hid o2
    have HO3 := Lib.hid o3
    have Hp := Lib.hid hp
    clear hp ht hr hg hb ha cr cg cb hV e1 e2 e3 hlb o2 o3
    go_enter Try.func23, Try.ntmps23
    go_wp2_with fail
    refine (pixI_yes p Hp.out _).mono ?_
    rintro e w' ⟨rfl, rfl⟩
    go_wp2_with fail
    refine (HU.out _).mono ?_
    rintro e w1 ⟨rfl, h1⟩
    go_wp2_with fail
    refine (HT.out _).mono ?_
    rintro e w2 ⟨rfl, h2⟩
    have K := px_call h1 h2
    clear h1 h2
    have HK := Lib.hid K
    clear K
    go_wp2_with fail
    go_loopw [22, 9] (fun i d wr => ∃ k : Nat, k ≤ 3 ∧ i = .int .i64 k ∧ Hid (d = .int .i64 (if k = 0 then 0 else if k = 1 then l1 else if k = 2 then l1 * 64 + l2 else l1 * 4096 + l2 * 64 + l3)) ∧ ChAt wr w2.heap.size a r g b ∧ Below w.heap.size w wr) (fun i _ _ => 3 - (intOf i).toNat)
    case atStart => exact ⟨0, by omega, rfl, Lib.hid rfl, ChAt.new w2 a r g b, HK.out.alloc HK.out.size _⟩
    case round =>
      obtain ⟨k, hk, rfl, Hd, hC, K⟩ := hrel
      have hsz := hC.lt
      obtain ⟨d0, d1, d2, d3⟩ := hC.cells
      have HC := Lib.hid hC
      have HK2 := Lib.hid K
      clear hC K
      obtain rfl | rfl | rfl | rfl : k = 0 ∨ k = 1 ∨ k = 2 ∨ k = 3 := by omega
      · obtain rfl := Hd.out
        go_wp2_with fail
        refine (HR.out _).mono ?_
        rintro e w3 ⟨rfl, rfl⟩
        go_wp2_with fail
        go_roundw
        case rel => exact ⟨1, by omega, rfl, Lib.hid rfl, HC.out, HK2.out⟩
        case measure => simp [intOf]
      · obtain rfl := Hd.out
        have o2 := HO2.out
        go_wp2_with fail
        refine (HG.out _).mono ?_
        rintro e w3 ⟨rfl, rfl⟩
        go_wp2_with fail
        go_roundw
        case rel => exact ⟨2, by omega, rfl, Lib.hid rfl, HC.out, HK2.out⟩
        case measure => simp [intOf]
      · obtain rfl := Hd.out
        have o3 := HO3.out
        go_wp2_with fail
        refine (HB.out _).mono ?_
        rintro e w3 ⟨rfl, rfl⟩
        go_wp2_with fail
        go_roundw
        case rel => exact ⟨3, by omega, rfl, Lib.hid rfl, HC.out, HK2.out⟩
        case measure => simp [intOf]
      · obtain rfl := Hd.out
        go_wp2_with fail
        go_ret
        exact ⟨ret_int HV.out.symm, HK2.out⟩
  · have HV : Hid (dotV p x y = -1) := Lib.hid (dotV_no hp _ _)
    have Hp := Lib.hid hp
    clear hp
    go_enter Try.func23, Try.ntmps23
    go_wp2_with fail
    refine (pixI_no p Hp.out _).mono ?_
    rintro e w' ⟨rfl, rfl⟩
    go_wp2_with fail
    go_ret
    exact ⟨ret_int HV.out.symm, Below.refl _ _⟩
theorem dpxS (p x y : Int) (w : World) : Calls Try.prog 27 #[.int .i64 p, .int .i64 x, .int .i64 y] w fun e w' => e = .returned (.int .i64 (dotV p x y)) ∧ w = w' := by
  by_cases hp : pixOk p
  · obtain ⟨t0, t1⟩ := thr_bd x y
    have C1 := Lib.hid (chS_in p 1 hp (by omega) (by omega))
    have C2 := Lib.hid (chS_in p 2 hp (by omega) (by omega))
    have C3 := Lib.hid (chS_in p 3 hp (by omega) (by omega))
    rw [chan_1 hp] at C1
    rw [chan_2 hp] at C2
    rw [chan_3 hp] at C3
    have D1 := Lib.hid (dleS (p / 65536 % 256) x y)
    have D2 := Lib.hid (dleS (p / 256 % 256) x y)
    have D3 := Lib.hid (dleS (p % 256) x y)
    rw [levV_yes (ch_1 p)] at D1
    rw [levV_yes (ch_2 p)] at D2
    rw [levV_yes (ch_3 p)] at D3
    obtain ⟨a0, a1⟩ := lev_bd (ch_1 p) t0 t1
    obtain ⟨b0, b1⟩ := lev_bd (ch_2 p) t0 t1
    obtain ⟨c0, c1⟩ := lev_bd (ch_3 p) t0 t1
    have hV : dotV p x y = lev (p / 65536 % 256) (thr x y) * 4096 + lev (p / 256 % 256) (thr x y) * 64 + lev (p % 256) (thr x y) := by rw [dotV_yes hp]; rfl
    generalize lev (p / 65536 % 256) (thr x y) = l1 at *
    generalize lev (p / 256 % 256) (thr x y) = l2 at *
    generalize lev (p % 256) (thr x y) = l3 at *
    generalize p / 65536 % 256 = r at *
    generalize p / 256 % 256 = g at *
    generalize p % 256 = b at *
    have HV := Lib.hid hV
    have Hp := Lib.hid hp
    clear hp hV t0 t1
    go_enter Try.func27, Try.ntmps27
    go_wp2_with fail
    refine (pixS_yes p Hp.out _).mono ?_
    rintro e w' ⟨rfl, rfl⟩
    go_wp2_with fail
    refine (C1.out _).mono ?_
    rintro e w' ⟨rfl, rfl⟩
    go_wp2_with fail
    refine (D1.out _).mono ?_
    rintro e w' ⟨rfl, rfl⟩
    go_wp2_with fail
    refine (C2.out _).mono ?_
    rintro e w' ⟨rfl, rfl⟩
    go_wp2_with fail
    refine (D2.out _).mono ?_
    rintro e w' ⟨rfl, rfl⟩
    go_wp2_with fail
    refine (C3.out _).mono ?_
    rintro e w' ⟨rfl, rfl⟩
    go_wp2_with fail
    refine (D3.out _).mono ?_
    rintro e w' ⟨rfl, rfl⟩
    go_wp2_with fail
    go_ret
    exact ⟨ret_int HV.out.symm, rfl⟩
  · have HV : Hid (dotV p x y = -1) := Lib.hid (dotV_no hp _ _)
    have Hp := Lib.hid hp
    clear hp
    go_enter Try.func27, Try.ntmps27
    go_wp2_with fail
    refine (pixS_no p Hp.out _).mono ?_
    rintro e w' ⟨rfl, rfl⟩
    go_wp2_with fail
    go_ret
    exact ⟨ret_int HV.out.symm, rfl⟩
theorem dot_no {d : Int} (h : ¬ dotOk d) : d < 0 ∨ 262143 < d := by unfold dotOk at h; omega
theorem levelV_neg {d k : Int} (h : ¬ dotOk d) : levelV d k = -1 := levelV_no fun e => h e.1
theorem lofI (d k : Int) (w : World) : Calls Try.prog 21 #[.int .i64 d, .int .i64 k] w fun e w' => e = .returned (.int .i64 (levelV d k)) ∧ w = w' := by
  by_cases hd : dotOk d
  · by_cases hk : 0 ≤ k ∧ k ≤ 2
    · have HV : Hid (levelV d k = levelK d k) := Lib.hid (levelV_yes hd hk.1 hk.2)
      obtain ⟨d0, d1⟩ := hd
      have e1 : bits .and .i64 (d / 4096) 63 = d / 4096 := by rw [and63 _ (by omega) (by omega)]; omega
      have e2 : bits .and .i64 (d / 64) 63 = d / 64 % 64 := and63 _ (by omega) (by omega)
      have e3 : bits .and .i64 d 63 = d % 64 := and63 _ (by omega) (by omega)
      obtain rfl | rfl | rfl : k = 0 ∨ k = 1 ∨ k = 2 := by omega
      all_goals
        clear hk
        go_enter Try.func21, Try.ntmps21
        go_wp2_with fail
        refine (inI_yes _ 0 262143 _ d0 d1).mono ?_
        rintro e w' ⟨rfl, rfl⟩
        go_wp2_with fail
        refine (inI_yes _ 0 2 _ (by omega) (by omega)).mono ?_
        rintro e w' ⟨rfl, rfl⟩
        go_wp2_with fail
        go_ret
        exact ⟨ret_int HV.out.symm, rfl⟩
    · have HV : Hid (levelV d k = -1) := Lib.hid (levelV_no fun h => hk h.2)
      have hk' : k < 0 ∨ 2 < k := by omega
      have Hk := Lib.hid hk'
      obtain ⟨d0, d1⟩ := hd
      clear hk hk'
      go_enter Try.func21, Try.ntmps21
      go_wp2_with fail
      refine (inI_yes _ 0 262143 _ d0 d1).mono ?_
      rintro e w' ⟨rfl, rfl⟩
      go_wp2_with fail
      refine (inI_no _ 0 2 _ Hk.out).mono ?_
      rintro e w' ⟨rfl, rfl⟩
      go_wp2_with fail
      go_ret
      exact ⟨ret_int HV.out.symm, rfl⟩
  · have HV : Hid (levelV d k = -1) := Lib.hid (levelV_neg hd)
    have Hd := Lib.hid (dot_no hd)
    clear hd
    go_enter Try.func21, Try.ntmps21
    go_wp2_with fail
    refine (inI_no _ 0 262143 _ Hd.out).mono ?_
    rintro e w' ⟨rfl, rfl⟩
    go_wp2_with fail
    go_ret
    exact ⟨ret_int HV.out.symm, rfl⟩
theorem lofS (d k : Int) (w : World) : Calls Try.prog 36 #[.int .i64 d, .int .i64 k] w fun e w' => e = .returned (.int .i64 (levelV d k)) ∧ w = w' := by
  by_cases hd : dotOk d
  · by_cases hk : 0 ≤ k ∧ k ≤ 2
    · have HV : Hid (levelV d k = levelK d k) := Lib.hid (levelV_yes hd hk.1 hk.2)
      obtain ⟨d0, d1⟩ := hd
      have e1 : bits .and .i64 (d / 4096) 63 = d / 4096 := by rw [and63 _ (by omega) (by omega)]; omega
      have e2 : bits .and .i64 (d / 64) 63 = d / 64 % 64 := and63 _ (by omega) (by omega)
      have e3 : bits .and .i64 d 63 = d % 64 := and63 _ (by omega) (by omega)
      obtain rfl | rfl | rfl : k = 0 ∨ k = 1 ∨ k = 2 := by omega
      all_goals
        clear hk
        go_enter Try.func36, Try.ntmps36
        go_wp2_with fail
        refine (inS_yes _ 0 262143 _ d0 d1).mono ?_
        rintro e w' ⟨rfl, rfl⟩
        go_wp2_with fail
        refine (inS_yes _ 0 2 _ (by omega) (by omega)).mono ?_
        rintro e w' ⟨rfl, rfl⟩
        go_wp2_with fail
        go_ret
        exact ⟨ret_int HV.out.symm, rfl⟩
    · have HV : Hid (levelV d k = -1) := Lib.hid (levelV_no fun h => hk h.2)
      have hk' : k < 0 ∨ 2 < k := by omega
      have Hk := Lib.hid hk'
      obtain ⟨d0, d1⟩ := hd
      clear hk hk'
      go_enter Try.func36, Try.ntmps36
      go_wp2_with fail
      refine (inS_yes _ 0 262143 _ d0 d1).mono ?_
      rintro e w' ⟨rfl, rfl⟩
      go_wp2_with fail
      refine (inS_no _ 0 2 _ Hk.out).mono ?_
      rintro e w' ⟨rfl, rfl⟩
      go_wp2_with fail
      go_ret
      exact ⟨ret_int HV.out.symm, rfl⟩
  · have HV : Hid (levelV d k = -1) := Lib.hid (levelV_neg hd)
    have Hd := Lib.hid (dot_no hd)
    clear hd
    go_enter Try.func36, Try.ntmps36
    go_wp2_with fail
    refine (inS_no _ 0 262143 _ Hd.out).mono ?_
    rintro e w' ⟨rfl, rfl⟩
    go_wp2_with fail
    go_ret
    exact ⟨ret_int HV.out.symm, rfl⟩
theorem pokI (W H : Int) (v : Value) (L : List Int) (w : World) (hv : RdI w v L) :
    Calls Try.prog 20 #[v, .int .i64 W, .int .i64 H] w fun e w' => e = .returned (.bool (fillB W H L 262143)) ∧ w = w' := by
  obtain ⟨A, c, rfl⟩ := hv.form
  obtain ⟨n, hn⟩ : ∃ n, n = L.length := ⟨_, rfl⟩
  have HC := Lib.hid (fillI W H 262143 (.slice A L.length c) L _ hv)
  obtain ⟨q, hq⟩ : ∃ q, q = fillB W H L 262143 := ⟨_, rfl⟩
  rw [← hn, ← hq] at HC
  rw [← hn, ← hq]
  clear hv hq hn
  go_enter Try.func20, Try.ntmps20
  go_wp2_with fail
  refine HC.out.mono ?_
  rintro e w' ⟨rfl, rfl⟩
  go_wp2_with fail
  go_ret
  exact ⟨rfl, rfl⟩
set_option maxHeartbeats 600000 in
theorem pokS (W H : Int) (v : Value) (L : List Int) (w : World) (hv : RdI w v L) :
    Calls Try.prog 37 #[v, .int .i64 W, .int .i64 H] w fun e w' => e = .returned (.bool (fillB W H L 262143)) ∧ w = w' := by
  obtain ⟨A, c, rfl⟩ := hv.form
  have hnm := hv.len
  obtain ⟨n, hn⟩ : ∃ n, n = L.length := ⟨_, rfl⟩
  rw [← hn] at hv hnm ⊢
  have Hv := Lib.hid hv
  clear hv
  by_cases hs : szOk W H
  · obtain ⟨m0, m1⟩ := sz_mul hs
    have Hs := Lib.hid hs
    have hs2 := hs
    obtain ⟨s1, s2, s3, s4⟩ := hs2
    by_cases hl : (n : Int) = W * H
    · have hn256 : n ≤ 256 := by omega
      have Hl := Lib.hid hl
      have Hn := Lib.hid hn
      clear hs hn
      go_enter Try.func37, Try.ntmps37
      go_wp2_with ((go_at_call 60; (with_reducible refine (inS_yes _ _ _ _ (by omega) (by omega)).mono ?_); rintro e w' ⟨rfl, rfl⟩))
      go_loopw [7] (fun i wr => ∃ k : Nat, k ≤ n ∧ i = .int .i64 k ∧ Hid (∀ (j : Nat) (x : Int), j < k → L[j]? = some x → 0 ≤ x ∧ x ≤ 262143) ∧ wr = w) (fun i _ => n - (intOf i).toNat)
      case atStart => exact ⟨0, Nat.zero_le _, rfl, Lib.hid (fun j x h => by omega), rfl⟩
      case round =>
        obtain ⟨k, hk, rfl, Hall, rfl⟩ := hrel
        by_cases hlt : k < n
        · obtain ⟨g, x, rfl, hx, hc⟩ := Hv.out.at_ (k := k) (by rw [← Hn.out]; exact hlt)
          have Hx := Lib.hid hx
          have k0 : (0 : Int) ≤ (k : Int) := by omega
          have k1 : (k : Int) < (n : Int) := by omega
          clear hx
          by_cases hp : 0 ≤ x ∧ x ≤ 262143
          · have Hp := Lib.hid hp
            clear hp
            go_wp2_with ((go_at_call 60; (with_reducible refine (inS_yes _ _ _ _ Hp.out.1 Hp.out.2).mono ?_); rintro e w' ⟨rfl, rfl⟩))
            go_roundw
            case rel =>
              refine ⟨k + 1, by omega, by go_num, Lib.hid (fun j y hj hy => ?_), by first | rfl | trivial⟩
              by_cases e : j < k
              · exact Hall.out j y e hy
              · obtain rfl : j = k := by omega
                rw [Hx.out] at hy
                rw [← Option.some.inj hy]
                exact Hp.out
            case measure => simp [intOf]; omega
          · have hp2 : x < 0 ∨ 262143 < x := by omega
            have Hp := Lib.hid hp2
            have hno : fillB W H L 262143 = false := fillB_no fun h => hp (h.2.2 k x Hx.out)
            have Hno := Lib.hid hno
            clear hp hp2 hno
            go_wp2_with ((go_at_call 60; (with_reducible refine (inS_no _ _ _ _ Hp.out).mono ?_); rintro e w' ⟨rfl, rfl⟩))
            go_ret
            exact ⟨ret_bool Hno.out.symm, rfl⟩
        · obtain rfl : k = n := by omega
          have hyes : fillB W H L 262143 = true := fillB_yes ⟨Hs.out, by rw [← Hn.out]; exact Hl.out, fun j x hx => Hall.out j x (by rw [Hn.out]; exact (List.getElem?_eq_some_iff.1 hx).1) hx⟩
          have Hyes := Lib.hid hyes
          clear hyes
          go_wp2_with fail
          go_ret
          exact ⟨ret_bool Hyes.out.symm, rfl⟩
    · have hno : fillB W H L 262143 = false := fillB_no fun h => hl (by rw [hn]; exact h.2.1)
      have Hno := Lib.hid hno
      unfold maxLen at hnm
      clear hs hno hn
      go_enter Try.func37, Try.ntmps37
      go_wp2_with ((go_at_call 60; (with_reducible refine (inS_yes _ _ _ _ (by omega) (by omega)).mono ?_); rintro e w' ⟨rfl, rfl⟩))
      go_ret
      exact ⟨ret_bool Hno.out.symm, rfl⟩
  · have hno : fillB W H L 262143 = false := fillB_no fun h => hs h.1
    have Hno := Lib.hid hno
    unfold szOk at hs
    by_cases h1 : 1 ≤ W ∧ W ≤ 16
    · obtain ⟨h1, h2⟩ := h1
      have h7 : H < 1 ∨ 16 < H := by omega
      have H7 := Lib.hid h7
      clear h7 hs hno hn
      go_enter Try.func37, Try.ntmps37
      go_wp2_with (first | (go_at_call 60; (with_reducible refine (inS_yes _ _ _ _ (by omega) (by omega)).mono ?_); rintro e w' ⟨rfl, rfl⟩) | (go_at_call 60; (with_reducible refine (inS_no _ _ _ _ H7.out).mono ?_); rintro e w' ⟨rfl, rfl⟩))
      go_ret
      exact ⟨ret_bool Hno.out.symm, rfl⟩
    · have h7 : W < 1 ∨ 16 < W := by omega
      have H7 := Lib.hid h7
      clear h7 hs hno hn h1
      go_enter Try.func37, Try.ntmps37
      go_wp2_with (first | (go_at_call 60; (with_reducible refine (inS_no _ _ _ _ H7.out).mono ?_); rintro e w' ⟨rfl, rfl⟩))
      go_ret
      exact ⟨ret_bool Hno.out.symm, rfl⟩
end Go.Proofs.Ytaggldhlnjbnhaa
