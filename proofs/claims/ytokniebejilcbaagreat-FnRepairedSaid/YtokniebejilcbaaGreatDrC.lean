/- What the laws draw: a valid scene with edits. No statement is proved here. -/
import Derived.Test.YtokniebejilcbaaGreatMA
import Derived.Test.YtokniebejilcbaaGreatMC
import Derived.Test.YtokniebejilcbaaGreatMB
import Derived.Test.YtokniebejilcbaaGreatCpyI
import Derived.Test.YtokniebejilcbaaGreatFilB
import Derived.Test.YtokniebejilcbaaGreatDrwI
import Derived.Test.YtokniebejilcbaaGreatDrE
import Derived.Test.YtokniebejilcbaaGreatSnS
import Derived.Test.YtokniebejilcbaaGreatSnD
import Derived.Test.YtokniebejilcbaaGreatEdH
import Derived.Test.YtokniebejilcbaaGreatEdW
import Derived.Test.YtokniebejilcbaaGreatEdQ
import Derived.Test.YtokniebejilcbaaGreatDrS
import Derived.Test.YtokniebejilcbaaGreatDrL
import Derived.Test.YtokniebejilcbaaGreatProg
import Derived.WalkKit
import Derived.ProofKit
import Derived.OpenShut
import Derived.WalkLawsBesides
import Derived.WalkSpells
import Derived.ShutString
import Derived.ChangeOld
import Derived.Below
import Derived.Lib.Hide
import Derived.BigQuiet
import Derived.Deep.QuietTactic
import Derived.Maps.AppendAt
import Derived.Deep.OwnRows
import Derived.Handy
import Derived.Deep.Draws
import Derived.OwnWalk
import Derived.Deep.AppendLies
import Derived.Deep.LoopGhost
import Derived.Deep.Onto
import Derived.Deep.MidRow
import Derived.Deep.WholeRow
import Derived.Laws.BitsAllLaws
import Derived.Lib.QuoteBits
import Derived.Test.YtokniebejilcbaaGreatShelf
import Derived.Laws.CopyOwn
import Derived.Deep.RegionLaw
import Derived.Deep.RegionHeld3
import Derived.Deep.DeepCutAuto
import Derived.Great.BuildSlice
import Derived.Laws.AppendOwn
import Derived.Deep.CutBlock
import Derived.Shelf.RegionOpenPlain
import Derived.Lib.SliceRun
import Derived.Deep.RegionWith
namespace Go.Proofs.YtokniebejilcbaaGreat
open Go.RowKit
def DrawnSc (w : World) (e' : Ending) (w' : World) : Prop :=
 ∃ (s : Sn) (v : Value) (bs : List Nat) (L : List Ed) (u : Value) (cs : List Nat), e' = .returned (.tuple #[.agg #[.int .i64 s.w, .int .i64 s.h, .int .i64 s.back, v], u]) ∧ snOk s ∧ repSfs.Own w.heap.size w' s.fs [v] bs ∧ L.length ≤ 4 ∧ (∀ e ∈ L, e.data.length ≤ 256) ∧ repEds.Own w.heap.size w' L [u] cs ∧ (∀ q ∈ bs, q ∉ cs) ∧ Below w.heap.size w w'
structure DcS (w : World) (g b : Nat) (s : Sn) (v : Value) (V : World) : Prop where
 bx : BkAt V b 34 #[.int .i64 s.w, .int .i64 s.h, .int .i64 s.back, v]
 hg : w.heap.size < g
 hb : g < b
 bw : Below w.heap.size w V
theorem DcS.turn {w : World} {g b : Nat} {s : Sn} {v : Value} {V V' : World} (h : DcS w g b s v V) (hg : V.grownBy V' (some g)) : DcS w g b s v V' :=
 ⟨h.bx.grown hg (fun e => by have := Option.some.inj e; have := h.hb; omega), h.hg, h.hb, h.bw.grown hg h.bw.size (fun k e => by have := Option.some.inj e; have := h.hg; omega)⟩
theorem DcS.far {w : World} {g b : Nat} {s : Sn} {v : Value} {V V' : World} (h : DcS w g b s v V) (hg : V.grownBy V' (some w.heap.size)) : DcS w g b s v V' :=
 ⟨h.bx.grown hg (fun e => by have := Option.some.inj e; have := h.hb; have := h.hg; omega), h.hg, h.hb, h.bw.grown hg h.bw.size (fun k e => by have := Option.some.inj e; omega)⟩
set_option maxHeartbeats 2000000 in
set_option maxRecDepth 100000 in
theorem drawScene_any (w : World) (a : Option Addr) (len cap : Nat) (zs : List Int) (hrow : IsRow .u8 w a len cap zs) :
  Calls Tryz.prog 23 #[.slice a len cap] w (DrawnSc w) := by
 have hT := BkAt.new w 34 #[.int .i64 0, .int .i64 0, .int .i64 0, .slice none 0 0]
 have hK := belI_box w (.cells #[.int .i64 0, .int .i64 0, .int .i64 0, .slice none 0 0] 34)
 have hR : IsRow .u8 (w.alloc (.cells #[.int .i64 0, .int .i64 0, .int .i64 0, .slice none 0 0] 34)) a len cap zs := hrow.of_same (fun x hx hp => Below.heap_alloc _ _ _ (hrow.lt x hx hp))
 clear hrow
 go_enter Tryz.func23, Tryz.ntmps23
 go_wp2_with fail
 refine (new_any _ _ _ _ zs hR).mono ?_
 rintro e w1 ⟨g, rfl, hg, hc, hb⟩
 replace hT := hT.call hb
 replace hK := belI_call hK hb
 have hgw : w.heap.size + 1 ≤ g := by simpa using hg
 clear hR hb hg
 go_wp2_with fail
 refine (l10Scene_any _ g hc).mono ?_
 rintro e w2 ⟨s, v, bs, rfl, hok, hO, hc2, hg2⟩
 obtain ⟨Av, cv, hv⟩ := (repSfs_form hO.r).1
 subst hv
 have hc1 := hc.lt
 replace hT := hT.grown hg2 (fun e => by have := Option.some.inj e; omega)
 replace hK := hK.grown hg2 hK.size (fun k e => by have := Option.some.inj e; omega)
 obtain ⟨b, hbb⟩ : ∃ b, b = w2.heap.size := ⟨_, rfl⟩
 have hsz2 := hg2.size
 have hbx := belI_box w2 (.cells #[.int .i64 s.w, .int .i64 s.h, .int .i64 s.back, .slice Av s.fs.length cv] 34)
 have hB := BkAt.newAt (w := w2) hbb.symm 34 #[.int .i64 s.w, .int .i64 s.h, .int .i64 s.back, .slice Av s.fs.length cv]
 obtain ⟨V, hV⟩ : ∃ V, V = w2.alloc (.cells #[.int .i64 s.w, .int .i64 s.h, .int .i64 s.back, .slice Av s.fs.length cv] 34) := ⟨_, rfl⟩
 rw [← hV] at hbx hB
 have hS : DcS w g b s (.slice Av s.fs.length cv) V := ⟨hB, by omega, by omega, belI_call hK hbx⟩
 have hcV := hc2.below hbx hc2.lt
 have hbl := hB.lt
 have hgb := hS.hb
 have HgO := Lib.hid (fun (q : Nat) (hq : q ∈ bs) (e : q = g) => (show False by have h1 := hO.lo q hq; omega))
 replace hT := hT.call hbx
 have hOl := hO.lo
 replace hO := hO.call hbx
 have HVV := Lib.hid hV
 have Hbb := Lib.hid hbb
 obtain ⟨lo, hlo⟩ : ∃ lo, lo = w1.heap.size := ⟨_, rfl⟩
 rw [← hlo] at hO hOl
 have hlo1 : w.heap.size + 1 ≤ lo := by omega
 have hOx := fun q (hq : q ∈ bs) => repSfs.ex hO.r q hq
 clear hK hc hc2 hg2 hbx hB hV hbb hsz2 hlo hc1
 go_upto_region 3 with fail
 rw [← HVV.out, ← Hbb.out]
 refine wp_region_held_drew (S := fun V => DcS w g b s (.slice Av s.fs.length cv) V) (by kernel_rfl) (hS.turn (grown_below (World.grownBy.refl _ _) (belI_drew _))) (fun hS => ?_)
 replace hT := hT.call (belI_drew _)
 replace hO := hO.call (belI_drew _)
 have hcV := hcV.drew
 refine tcH (i := 0) (v := .agg #[.int .i64 s.w, .int .i64 s.h, .int .i64 s.back, .slice Av s.fs.length cv]) rfl (by intro w' hSw; (try dsimp only at hSw); (obtain ⟨d0, d1, d2, d3⟩ := hSw.bx.cells4); go_simp) ?_
 refine tkH (i := 1) (v := .pointer (some ⟨g, 0, none⟩)) rfl ?_
 (try simp only [Act.put]); (try simp only [zPa]); (try simp only [zPb, zPc])
 refine wpAnyH_ready (rs := [2]) (by kernel_rfl) (by simp) ?_
 refine (AllReadyH.cons rfl (fun K hK => ?_) AllReadyH.nil)
 ·rw [if_pos (by kernel_rfl)]
  (try simp only [zGa]); (try simp only [zGb]); (try simp only [zGc])
  go_simp
  with_reducible refine (l10Edits_any _ g hcV).mono ?_
  rintro e' W' ⟨L, u, cs, rfl, hLl, hLs, hLo, hcq, hg⟩
  have hlc : ∀ q ∈ cs, V.heap.size ≤ q := fun q hq => hLo.lo q hq
  dsimp only
  have hT := hT.grown hg (fun e => by have h1 := Option.some.inj e; omega)
  have hO := hO.chg (Chg.of_grown hg) (fun q hq e => HgO.out q hq (by simpa using e))
  refine hK.out _ _ (hS.turn hg) (fun hS => ?_)
  clear hK
  (try simp only [Act.put]); (try simp only [zPa]); (try simp only [zPb, zPc])
  refine wpAnyH_ready (rs := [3]) (by kernel_rfl) (by simp) ?_
  refine (AllReadyH.cons rfl (fun K hK => ?_) AllReadyH.nil)
  ·rw [if_pos (by kernel_rfl)]
   (try simp only [zGa]); (try simp only [zGb]); (try simp only [zGc])
   refine wp_store_bk 34 (.tmp 2) (.tmp 10) rfl w.heap.size 34 #[.int .i64 0, .int .i64 0, .int .i64 0, .slice none 0 0] #[.int .i64 s.w, .int .i64 s.h, .int .i64 s.back, .slice Av s.fs.length cv] (by kernel_rfl) rfl (by simp [Value.oneCell']) rfl (by first | with_reducible rfl | (go_simp; done) | rfl) hT ?_
   intro W3 IB hgB
   skip
   have hO := hO.chg (Chg.of_grown hgB) (fun q hq e => by have h1 := hOl q hq; have h2 : q = w.heap.size := (by simpa using e); omega)
   have hLo := hLo.chg (Chg.of_grown hgB) (fun q hq e => by have h1 := hlc q hq; have h2 : q = w.heap.size := (by simpa using e); omega)
   refine hK.out _ _ (hS.far hgB) (fun hS => ?_)
   clear hK
   (try simp only [Act.put]); (try simp only [zPa]); (try simp only [zPb, zPc])
   refine tkH (i := 4) (v := u) rfl ?_
   refine wpAnyH_done (by kernel_rfl) ?_ _
   obtain ⟨z0, z1, z2, z3⟩ := IB.cells4
   go_wp2_with fail
   exact bodyPost_ret (v := .tuple #[.agg #[.int .i64 s.w, .int .i64 s.h, .int .i64 s.back, .slice Av s.fs.length cv], u]) (by simp [results, Tryz.results23, go_sem, z0, z1, z2, z3]) rfl ⟨s, _, bs, L, u, cs, rfl, hok, hO.mono (by omega), hLl, hLs, hLo.mono (show w.heap.size ≤ V.heap.size from by omega), fun q hq hq2 => by have h1 := hlc q hq2; have h2 := hOx q hq; omega, hS.bw⟩
end Go.Proofs.YtokniebejilcbaaGreat
