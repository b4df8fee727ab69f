/- The walk of the law FnRegionSets: it returns true for every code. -/
import Derived.Test.YtcffeakajfbhhaaRegS
import Derived.Test.YtcffeakajfbhhaaBig
import Derived.Test.YtcffeakajfbhhaaAt
import Derived.Deep.DeepCutAuto
import Derived.Deep.RegionHeld3
namespace Go.Proofs.Ytcffeakajfbhhaa
open Go.RowKit
theorem BR.box {W : World} {b : Nat} {v u : Value} {L : List Rc} (h : BR W b v L) : BR (W.alloc (.cells #[u] 26)) b v L := h.call (below_bx _ _)
theorem TwoB.drewN {w W : World} {va vb : Value} {A B : List Rc} {b3 b4 : Nat} (h : TwoB w va vb A B b3 b4 W) (k : Nat) : TwoB w va vb A B b3 b4 (W.drewN k) :=
  ⟨⟨h.a.x, h.a.r.drewN k⟩, ⟨h.b.x, h.b.r.drewN k⟩, below_drewN h.bw k⟩
/-- The variables of FnRegionSets behind its first half. -/
structure SetB (w : World) (va vb vu vc vd : Value) (A B U C D : List Rc) (b3 b4 b5 b6 b7 : Nat) (W : World) : Prop where
  a : BR W b3 va A
  b : BR W b4 vb B
  u : BR W b5 vu U
  c : BR W b6 vc C
  d : BR W b7 vd D
  bw : Below w.heap.size w W
theorem SetB.call {w W W' : World} {va vb vu vc vd : Value} {A B U C D : List Rc} {b3 b4 b5 b6 b7 : Nat} (h : SetB w va vb vu vc vd A B U C D b3 b4 b5 b6 b7 W) (k : Below W.heap.size W W') : SetB w va vb vu vc vd A B U C D b3 b4 b5 b6 b7 W' :=
  ⟨h.a.call k, h.b.call k, h.u.call k, h.c.call k, h.d.call k, below_call h.bw k⟩
theorem SetB.drew {w W : World} {va vb vu vc vd : Value} {A B U C D : List Rc} {b3 b4 b5 b6 b7 : Nat} (h : SetB w va vb vu vc vd A B U C D b3 b4 b5 b6 b7 W) : SetB w va vb vu vc vd A B U C D b3 b4 b5 b6 b7 W.drew :=
  ⟨h.a.drew, h.b.drew, h.u.drew, h.c.drew, h.d.drew, h.bw.drew⟩
theorem SetB.cells {w W : World} {va vb vu vc vd : Value} {A B U C D : List Rc} {b3 b4 b5 b6 b7 : Nat} (h : SetB w va vb vu vc vd A B U C D b3 b4 b5 b6 b7 W) :
    W.cell? ⟨b3, 0, none⟩ = some va ∧ W.cell? ⟨b4, 0, none⟩ = some vb ∧ W.cell? ⟨b5, 0, none⟩ = some vu ∧ W.cell? ⟨b6, 0, none⟩ = some vc ∧ W.cell? ⟨b7, 0, none⟩ = some vd :=
  ⟨h.a.cell, h.b.cell, h.u.cell, h.c.cell, h.d.cell⟩
set_option maxHeartbeats 4000000 in
set_option maxRecDepth 10000 in
theorem walk_FnRegionSets (A : Option Addr) (len cap : Nat) (zs : List Int) (w : World) (hrow : IsRow .u8 w A len cap zs) :
    Calls Try.prog 3 #[.slice A len cap] w fun e w' => e = .returned (.bool true) ∧ Below w.heap.size w w' := by
  by_cases hb : len ≤ 1048576
  · have Hrow := Lib.hid (fun (W : World) (K : Below w.heap.size w W) => (hrow.of_same (w' := W) (fun x hx hp => (K.block _ (hrow.lt x hx hp))) : IsRow .u8 W A len cap zs))
    go_enter Try.func3, Try.ntmps3
    go_wp2_with fail
    refine (big_no _ A len cap hb).mono ?_
    rintro e w' ⟨rfl, rfl⟩
    go_wp2_with fail
    refine (drawTwo _ A len cap zs hrow).mono ?_
    rintro e w1 ⟨va, vb, LA, LB, rfl, hA, hB, hoa, hob, K⟩
    obtain ⟨Aa, ca, hva⟩ := own_shape hoa
    obtain ⟨Ab, cb, hvb⟩ := own_shape hob
    subst hva
    subst hvb
    have hT := TwoB.born (RdR.of_own hoa) (RdR.of_own hob) K
    have HA := Lib.hid hA
    have HB := Lib.hid hB
    clear hoa hob K hA hB
    obtain ⟨n, hn⟩ : ∃ n, n = LA.length := ⟨_, rfl⟩
    obtain ⟨m, hm⟩ : ∃ m, m = LB.length := ⟨_, rfl⟩
    rw [← hn, ← hm] at hT ⊢
    have Hn := Lib.hid hn
    clear hn hm
    go_upto_region 4 with fail
    go_cut [38] (fun s38 wx => s38 = .bool false ∧ TwoB w (.slice Aa n ca) (.slice Ab m cb) LA LB w1.heap.size (w1.heap.size + 1) wx)
    case first =>
      by_cases h0 : n = 0
      · have q0 : ((n : Int) > 0) = False := by apply eq_false; omega
        have q1 : (0 < (n : Int)) = False := by apply eq_false; omega
        have q2 : (0 < n) = False := by apply eq_false; omega
        have hc := hT.a.cell
        go_quiet (fail)
        go_wp2_with fail
        go_meet
        case rel => exact ⟨rfl, hT.drewN _⟩
      · have q0 : (0 : Int) < (n : Int) := by omega
        have q2 : 0 < n := by omega
        obtain ⟨g, r, e, hr, hC⟩ := hT.a.r.at_ (k := 0) (by rw [← Hn.out]; exact q2)
        subst e
        have hin := first_in HA.out (List.mem_of_getElem? hr)
        have R := fun W hv => inRI (.slice (some ⟨g, 0, none⟩) n ca) LA r.x r.y W hv
        rw [hin] at R
        have hC2 : C4 ((w1.alloc (.cells #[.slice (some ⟨g, 0, none⟩) n ca] 26)).alloc (.cells #[.slice Ab m cb] 26)) g 0 r := by simpa using hC
        clear hC hr hin
        go_region_held3 (fun W => W.cell? ⟨w1.heap.size, 0, none⟩ = some (.slice (some ⟨g, 0, none⟩) n ca) ∧ W.cell? ⟨g, 0, none⟩ = some (.int .i64 r.x) ∧ W.cell? ⟨g, 1, none⟩ = some (.int .i64 r.y))
          (with_reducible first | exact ⟨hT.a.cell, hC2.c0, hC2.c1⟩ | exact ⟨hT.a.drew.cell, hC2.drew.c0, hC2.drew.c1⟩ | fail)
          ((go_at_call 15; (with_reducible first | refine (R _ hT.a.r).mono ?_ | refine (R _ hT.a.r.drew).mono ?_); rintro e wk ⟨rfl, hbk⟩; (with_reducible first | have hbk := below_undrew2 hbk | skip); replace hT := hT.call hbk; replace hC2 := hC2.call hbk))
        go_wp2_with fail
        go_meet
        case rel => exact ⟨rfl, hT⟩
    case rest =>
      obtain ⟨rfl, hT⟩ := hcut
      obtain ⟨U, hU⟩ : ∃ U, U = joinL (fun p q => p || q) LA LB := ⟨_, rfl⟩
      obtain ⟨C, hC⟩ : ∃ C, C = joinL (fun p q => p && q) LA LB := ⟨_, rfl⟩
      obtain ⟨D, hD⟩ : ∃ D, D = joinL (fun p q => p && !q) LA LB := ⟨_, rfl⟩
      have HXU : Hid (∀ x y : Nat, x < 16 → y < 16 → inR U x y = (inR LA x y || inR LB x y)) := Lib.hid (fun x y hx hy => by rw [hU]; exact join_in HA.out HB.out x y hx hy)
      have HXC : Hid (∀ x y : Nat, x < 16 → y < 16 → inR C x y = (inR LA x y && inR LB x y)) := Lib.hid (fun x y hx hy => by rw [hC]; exact join_in HA.out HB.out x y hx hy)
      have HXD : Hid (∀ x y : Nat, x < 16 → y < 16 → inR D x y = (inR LA x y && !inR LB x y)) := Lib.hid (fun x y hx hy => by rw [hD]; exact join_in HA.out HB.out x y hx hy)
      have hS1 := (sets_area HA.out HB.out).1
      have hS2 := (sets_area HA.out HB.out).2
      rw [← hU, ← hC] at hS1
      rw [← hD, ← hC] at hS2
      have HS1 := Lib.hid hS1
      have HS2 := Lib.hid hS2
      have JU := fun va vb W h1 h2 => joinI0 va vb LA LB W h1 h2
      have JC := fun va vb W h1 h2 => joinI1 va vb LA LB W h1 h2
      have JD := fun va vb W h1 h2 => joinI2 va vb LA LB W h1 h2
      unfold JoinAns at JU JC JD
      rw [← hU] at JU
      rw [← hC] at JC
      rw [← hD] at JD
      have HU := Lib.hid JU
      have HC := Lib.hid JC
      have HD := Lib.hid JD
      clear hU hC hD hS1 hS2 JU JC JD
      have x3 := hT.a.cell
      have x4 := hT.b.cell
      go_wp2_with fail
      refine (HU.out _ _ _ hT.a.r hT.b.r).mono ?_
      rintro e w2 ⟨vu, rfl, hou, k2⟩
      obtain ⟨Au, cu, hvu⟩ := own_shape hou
      subst hvu
      have hu := BR.new w2 (RdR.of_own hou)
      replace hT := (hT.call k2).call (below_bx w2 (.slice Au U.length cu))
      clear x3 x4 k2 hou
      have x3 := hT.a.cell
      have x4 := hT.b.cell
      obtain ⟨nu, hnu⟩ : ∃ nu, nu = U.length := ⟨_, rfl⟩
      rw [← hnu] at hT hu x3 x4 ⊢
      clear hnu
      go_wp2_with fail
      refine (HC.out _ _ _ hT.a.r hT.b.r).mono ?_
      rintro e w3 ⟨vc, rfl, hoc, k2⟩
      obtain ⟨Ac, cc, hvc⟩ := own_shape hoc
      subst hvc
      have hc := BR.new w3 (RdR.of_own hoc)
      replace hT := (hT.call k2).call (below_bx w3 (.slice Ac C.length cc))
      replace hu := (hu.call k2).call (below_bx w3 (.slice Ac C.length cc))
      clear x3 x4 k2 hoc
      have x3 := hT.a.cell
      have x4 := hT.b.cell
      obtain ⟨nc, hnc⟩ : ∃ nc, nc = C.length := ⟨_, rfl⟩
      rw [← hnc] at hT hu hc x3 x4 ⊢
      clear hnc
      go_wp2_with fail
      refine (HD.out _ _ _ hT.a.r hT.b.r).mono ?_
      rintro e w4 ⟨vd, rfl, hod, k2⟩
      obtain ⟨Ad, cd, hvd⟩ := own_shape hod
      subst hvd
      have hd := BR.new w4 (RdR.of_own hod)
      replace hT := (hT.call k2).call (below_bx w4 (.slice Ad D.length cd))
      replace hu := (hu.call k2).call (below_bx w4 (.slice Ad D.length cd))
      replace hc := (hc.call k2).call (below_bx w4 (.slice Ad D.length cd))
      clear x3 x4 k2 hod
      obtain ⟨nd, hnd⟩ : ∃ nd, nd = D.length := ⟨_, rfl⟩
      rw [← hnd] at hT hu hc hd ⊢
      clear hnd
      have hS : SetB w (.slice Aa n ca) (.slice Ab m cb) (.slice Au nu cu) (.slice Ac nc cc) (.slice Ad nd cd) LA LB U C D w1.heap.size (w1.heap.size + 1) w2.heap.size w3.heap.size w4.heap.size (w4.alloc (.cells #[.slice Ad nd cd] 26)) := ⟨hT.a, hT.b, hu, hc, hd, hT.bw⟩
      clear hT hu hc hd
      go_wp2_with fail
      go_loopw [8] (fun i wr => ∃ k : Nat, k ≤ 12 ∧ i = .int .i64 k ∧ SetB w (.slice Aa n ca) (.slice Ab m cb) (.slice Au nu cu) (.slice Ac nc cc) (.slice Ad nd cd) LA LB U C D w1.heap.size (w1.heap.size + 1) w2.heap.size w3.heap.size w4.heap.size wr) (fun i _ => 12 - (intOf i).toNat)
      case atStart => exact ⟨0, by omega, rfl, hS⟩
      case round =>
        clear hS
        obtain ⟨k, hk, rfl, hS⟩ := hrel
        by_cases hlt : k < 12
        · have k0 : (k : Int) < 12 := by omega
          go_wp2_with fail
          refine (at_any _ A len cap zs (Hrow.out _ hS.bw) (k : Int) (by omega) (by omega)).mono ?_
          rintro e wy ⟨x0, rfl, hx0, hx1, rfl⟩
          obtain ⟨xn, hxn⟩ : ∃ xn : Nat, x0 % 16 = (xn : Int) := ⟨(x0 % 16).toNat, by omega⟩
          have hxl : xn < 16 := by omega
          go_wp2_with fail
          refine (at_any _ A len cap zs (Hrow.out _ hS.bw) ((k : Int) + 7) (by omega) (by omega)).mono ?_
          rintro e wy ⟨y0, rfl, hy0, hy1, rfl⟩
          obtain ⟨yn, hyn⟩ : ∃ yn : Nat, y0 % 16 = (yn : Int) := ⟨(y0 % 16).toNat, by omega⟩
          have hyl : yn < 16 := by omega
          have gU := HXU.out xn yn hxl hyl
          have gC := HXC.out xn yn hxl hyl
          have gD := HXD.out xn yn hxl hyl
          have RA := fun v W hv => inRI v LA xn yn W hv
          have RB := fun v W hv => inRI v LB xn yn W hv
          have RU := fun v W hv => inRI v U xn yn W hv
          have RC := fun v W hv => inRI v C xn yn W hv
          have RD := fun v W hv => inRI v D xn yn W hv
          obtain ⟨p, hp⟩ : ∃ p, inR LA xn yn = p := ⟨_, rfl⟩
          obtain ⟨q, hq⟩ : ∃ q, inR LB xn yn = q := ⟨_, rfl⟩
          rw [hp, hq] at gU gC gD
          rw [hp] at RA
          rw [hq] at RB
          rw [gU] at RU
          rw [gC] at RC
          rw [gD] at RD
          clear gU gC gD hp hq
          have x3 := hS.a.cell
          go_wp2_with fail
          refine (RA _ _ hS.a.r).mono ?_
          rintro e wa ⟨rfl, kb⟩
          replace hS := hS.call kb
          clear kb x3 RA
          have x4 := hS.b.cell
          go_wp2_with fail
          refine (RB _ _ hS.b.r).mono ?_
          rintro e wb ⟨rfl, kb⟩
          replace hS := hS.call kb
          clear kb x4 RB
          have x5 := hS.u.cell
          rcases p with _ | _ <;> rcases q with _ | _
          · go_wp2_with fail
            refine (RU _ _ hS.u.r).mono ?_
            rintro e wc ⟨rfl, kb⟩
            replace hS := hS.call kb
            clear kb x5
            have x6 := hS.c.cell
            go_wp2_with fail
            refine (RC _ _ hS.c.r).mono ?_
            rintro e wd ⟨rfl, kb⟩
            replace hS := hS.call kb
            clear kb x6
            have x7 := hS.d.cell
            go_wp2_with fail
            refine (RD _ _ hS.d.r).mono ?_
            rintro e we ⟨rfl, kb⟩
            replace hS := hS.call kb
            clear kb x7
            go_wp2_with fail
            go_roundw
            case rel => exact ⟨k + 1, by omega, by go_num, hS⟩
            case measure => simp [intOf]; omega
          · go_wp2_with fail
            refine (RU _ _ hS.u.r).mono ?_
            rintro e wc ⟨rfl, kb⟩
            replace hS := hS.call kb
            clear kb x5
            have x6 := hS.c.cell
            go_wp2_with fail
            refine (RC _ _ hS.c.r).mono ?_
            rintro e wd ⟨rfl, kb⟩
            replace hS := hS.call kb
            clear kb x6
            have x7 := hS.d.cell
            go_wp2_with fail
            refine (RD _ _ hS.d.r).mono ?_
            rintro e we ⟨rfl, kb⟩
            replace hS := hS.call kb
            clear kb x7
            go_wp2_with fail
            go_roundw
            case rel => exact ⟨k + 1, by omega, by go_num, hS⟩
            case measure => simp [intOf]; omega
          · go_wp2_with fail
            refine (RU _ _ hS.u.r).mono ?_
            rintro e wc ⟨rfl, kb⟩
            replace hS := hS.call kb
            clear kb x5
            have x6 := hS.c.cell
            go_wp2_with fail
            refine (RC _ _ hS.c.r).mono ?_
            rintro e wd ⟨rfl, kb⟩
            replace hS := hS.call kb
            clear kb x6
            have x7 := hS.d.cell
            go_wp2_with fail
            refine (RD _ _ hS.d.r).mono ?_
            rintro e we ⟨rfl, kb⟩
            replace hS := hS.call kb
            clear kb x7
            go_wp2_with fail
            go_roundw
            case rel => exact ⟨k + 1, by omega, by go_num, hS⟩
            case measure => simp [intOf]; omega
          · go_wp2_with fail
            refine (RU _ _ hS.u.r).mono ?_
            rintro e wc ⟨rfl, kb⟩
            replace hS := hS.call kb
            clear kb x5
            have x6 := hS.c.cell
            go_wp2_with fail
            refine (RC _ _ hS.c.r).mono ?_
            rintro e wd ⟨rfl, kb⟩
            replace hS := hS.call kb
            clear kb x6
            have x7 := hS.d.cell
            go_wp2_with fail
            refine (RD _ _ hS.d.r).mono ?_
            rintro e we ⟨rfl, kb⟩
            replace hS := hS.call kb
            clear kb x7
            go_wp2_with fail
            go_roundw
            case rel => exact ⟨k + 1, by omega, by go_num, hS⟩
            case measure => simp [intOf]; omega
        · have hS := hS
          obtain rfl : k = 12 := by omega
          obtain ⟨au, hau⟩ : ∃ a, a = areaR U := ⟨_, rfl⟩
          obtain ⟨ac, hac⟩ : ∃ a, a = areaR C := ⟨_, rfl⟩
          obtain ⟨ad, had⟩ : ∃ a, a = areaR D := ⟨_, rfl⟩
          obtain ⟨aa, haa⟩ : ∃ a, a = areaR LA := ⟨_, rfl⟩
          obtain ⟨ab, hab⟩ : ∃ a, a = areaR LB := ⟨_, rfl⟩
          have gA := fun v W hv => areaI v LA W hv
          have gB := fun v W hv => areaI v LB W hv
          have gU := fun v W hv => areaI v U W hv
          have gC := fun v W hv => areaI v C W hv
          have gD := fun v W hv => areaI v D W hv
          have e1 := HS1.out
          have e2 := HS2.out
          have bu := area_bd U
          have bc := area_bd C
          have bd := area_bd D
          have ba := area_bd LA
          have bb := area_bd LB
          rw [← hau] at gU e1 bu
          rw [← hac] at gC e1 e2 bc
          rw [← had] at gD e2 bd
          rw [← haa] at gA e1 e2 ba
          rw [← hab] at gB e1 bb
          clear hau hac had haa hab
          have Ew := Lib.hid (IntWalk.i64_in aa (by omega))
          go_upto_region 18 with fail
          go_region_held3 (fun W => W.cell? ⟨w1.heap.size, 0, none⟩ = some (.slice Aa n ca) ∧ W.cell? ⟨w1.heap.size + 1, 0, none⟩ = some (.slice Ab m cb) ∧ W.cell? ⟨w2.heap.size, 0, none⟩ = some (.slice Au nu cu) ∧ W.cell? ⟨w3.heap.size, 0, none⟩ = some (.slice Ac nc cc) ∧ W.cell? ⟨w4.heap.size, 0, none⟩ = some (.slice Ad nd cd))
            (with_reducible first | exact hS.cells | exact hS.drew.cells | fail)
            (first 
              | (go_at_call 20; (with_reducible refine (gU _ _ hS.u.r).mono ?_); rintro e wk ⟨rfl, kb⟩; replace hS := hS.call kb)
              | (go_at_call 20; (with_reducible refine (gU _ _ hS.drew.u.r).mono ?_); rintro e wk ⟨rfl, kb⟩; replace hS := hS.drew.call kb)
              | (go_at_call 20; (with_reducible refine (gC _ _ hS.c.r).mono ?_); rintro e wk ⟨rfl, kb⟩; replace hS := hS.call kb)
              | (go_at_call 20; (with_reducible refine (gC _ _ hS.drew.c.r).mono ?_); rintro e wk ⟨rfl, kb⟩; replace hS := hS.drew.call kb)
              | (go_at_call 20; (with_reducible refine (gA _ _ hS.a.r).mono ?_); rintro e wk ⟨rfl, kb⟩; replace hS := hS.call kb)
              | (go_at_call 20; (with_reducible refine (gA _ _ hS.drew.a.r).mono ?_); rintro e wk ⟨rfl, kb⟩; replace hS := hS.drew.call kb)
              | (go_at_call 20; (with_reducible refine (gB _ _ hS.b.r).mono ?_); rintro e wk ⟨rfl, kb⟩; replace hS := hS.call kb)
              | (go_at_call 20; (with_reducible refine (gB _ _ hS.drew.b.r).mono ?_); rintro e wk ⟨rfl, kb⟩; replace hS := hS.drew.call kb)
              | (go_at_call 20; (with_reducible refine (gD _ _ hS.d.r).mono ?_); rintro e wk ⟨rfl, kb⟩; replace hS := hS.call kb)
              | (go_at_call 20; (with_reducible refine (gD _ _ hS.drew.d.r).mono ?_); rintro e wk ⟨rfl, kb⟩; replace hS := hS.drew.call kb))
          go_wp2_with fail
          go_ret
          exact ⟨ret_bool (by rw [Ew.out]; simp), hS.bw⟩
  · go_enter Try.func3, Try.ntmps3
    go_wp2_with fail
    refine (big_yes _ A len cap (by omega)).mono ?_
    rintro e w' ⟨rfl, rfl⟩
    go_wp2_with fail
    go_ret
    exact ⟨rfl, Below.refl _ _⟩
end Go.Proofs.Ytcffeakajfbhhaa
