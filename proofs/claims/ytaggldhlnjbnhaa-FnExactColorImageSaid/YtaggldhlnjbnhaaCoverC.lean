/- The contracts of impl.hasNoPoints, spec.l02Empty, impl.Covers, spec.Covers. No statement is proved here. -/
import Derived.Test.YtaggldhlnjbnhaaBase
import Derived.Test.YtaggldhlnjbnhaaRectC
import Derived.Test.YtaggldhlnjbnhaaBlk4
import Derived.Test.YtaggldhlnjbnhaaIsectP
import Derived.Test.YtaggldhlnjbnhaaIsectI
import Derived.Test.YtaggldhlnjbnhaaProg
import Derived.WalkKit
import Derived.ProofKit
import Derived.OpenShut
import Derived.WalkLawsBesides
import Derived.WalkSpells
import Derived.ShutString
import Derived.ChangeOld
import Derived.Below
import Derived.Lib.Hide
import Derived.Deep.RegionHeld3
import Derived.Deep.DeepCutAuto
namespace Go.Proofs.Ytaggldhlnjbnhaa
open Go.RowKit
def Rc.emp (r : Rc) : Prop := r.w = 0 ∨ r.h = 0
theorem empI_yes (r : Rc) (hr : r.emp) (w : World) :
    Calls Try.prog 77 #[.agg #[.int .i64 r.x, .int .i64 r.y, .int .i64 r.w, .int .i64 r.h]] w fun e w' => e = .returned (.bool true) ∧ w.alloc (.cells #[.int .i64 r.x, .int .i64 r.y, .int .i64 r.w, .int .i64 r.h] 60) = w' := by
  by_cases h0 : r.w = 0
  · have e0 : (r.w == 0) = true := by simp [h0]
    clear hr h0
    go_enter Try.func77, Try.ntmps77
    go_wp2
    go_ret
    exact ⟨rfl, rfl⟩
  · have e0 : (r.w == 0) = false := by simp [h0]
    have e1 : (r.h == 0) = true := by have := hr; unfold Rc.emp at this; simp; omega
    clear hr h0
    go_enter Try.func77, Try.ntmps77
    go_wp2
    go_ret
    exact ⟨rfl, rfl⟩
theorem empI_no (r : Rc) (hr : ¬ r.emp) (w : World) :
    Calls Try.prog 77 #[.agg #[.int .i64 r.x, .int .i64 r.y, .int .i64 r.w, .int .i64 r.h]] w fun e w' => e = .returned (.bool false) ∧ w.alloc (.cells #[.int .i64 r.x, .int .i64 r.y, .int .i64 r.w, .int .i64 r.h] 60) = w' := by
  have e0 : (r.w == 0) = false := by unfold Rc.emp at hr; simp; omega
  have e1 : (r.h == 0) = false := by unfold Rc.emp at hr; simp; omega
  clear hr
  go_enter Try.func77, Try.ntmps77
  go_wp2
  go_ret
  exact ⟨rfl, rfl⟩
theorem empS_yes (r : Rc) (hr : r.emp) (w : World) :
    Calls Try.prog 74 #[.agg #[.int .i64 r.x, .int .i64 r.y, .int .i64 r.w, .int .i64 r.h]] w fun e w' => e = .returned (.bool true) ∧ w.alloc (.cells #[.int .i64 r.x, .int .i64 r.y, .int .i64 r.w, .int .i64 r.h] 60) = w' := by
  by_cases h0 : r.w = 0
  · have e0 : (r.w == 0) = true := by simp [h0]
    clear hr h0
    go_enter Try.func74, Try.ntmps74
    go_wp2
    go_ret
    exact ⟨rfl, rfl⟩
  · have e0 : (r.w == 0) = false := by simp [h0]
    have e1 : (r.h == 0) = true := by have := hr; unfold Rc.emp at this; simp; omega
    clear hr h0
    go_enter Try.func74, Try.ntmps74
    go_wp2
    go_ret
    exact ⟨rfl, rfl⟩
theorem empS_no (r : Rc) (hr : ¬ r.emp) (w : World) :
    Calls Try.prog 74 #[.agg #[.int .i64 r.x, .int .i64 r.y, .int .i64 r.w, .int .i64 r.h]] w fun e w' => e = .returned (.bool false) ∧ w.alloc (.cells #[.int .i64 r.x, .int .i64 r.y, .int .i64 r.w, .int .i64 r.h] 60) = w' := by
  have e0 : (r.w == 0) = false := by unfold Rc.emp at hr; simp; omega
  have e1 : (r.h == 0) = false := by unfold Rc.emp at hr; simp; omega
  clear hr
  go_enter Try.func74, Try.ntmps74
  go_wp2
  go_ret
  exact ⟨rfl, rfl⟩
open Classical in
/-- What Covers answers. -/
noncomputable def covB (a b : Rc) : Bool := decide (a.ok ∧ b.ok ∧ (b.emp ∨ isect a b = b))
open Classical in
theorem cov_yes {a b : Rc} (h : a.ok ∧ b.ok ∧ (b.emp ∨ isect a b = b)) : covB a b = true := by unfold covB; exact decide_eq_true h
open Classical in
theorem cov_no {a b : Rc} (h : ¬ (a.ok ∧ b.ok ∧ (b.emp ∨ isect a b = b))) : covB a b = false := by unfold covB; exact decide_eq_false h
theorem rc_ext {a b : Rc} (h : a.x = b.x ∧ a.y = b.y ∧ a.w = b.w ∧ a.h = b.h) : a = b := by
  cases a; cases b; simp_all
theorem coversI_emp (a b : Rc) (ha : a.ok) (hb : b.ok) (he : b.emp) (w : World) :
    Calls Try.prog 76 #[.agg #[.int .i64 a.x, .int .i64 a.y, .int .i64 a.w, .int .i64 a.h], .agg #[.int .i64 b.x, .int .i64 b.y, .int .i64 b.w, .int .i64 b.h]] w
      fun e w' => e = .returned (.bool (covB a b)) ∧ Below w.heap.size w w' := by
  have Ha := Lib.hid ha
  have Hb := Lib.hid hb
  have He := Lib.hid he
  clear ha hb he
  go_enter Try.func76, Try.ntmps76
  go_wp2_with fail
  refine (rectOkI_yes a Ha.out _).mono ?_
  rintro e w1 ⟨rfl, hb1⟩
  obtain ⟨hc, hf⟩ := bcell hb1
  go_wp2_with fail
  refine (rectOkI_yes b Hb.out _).mono ?_
  rintro e w2 ⟨rfl, hb2⟩
  have hA : RcAt w2 w.heap.size a := ((((RcAt.new w a).alloc _).below hb1 (by simp; omega))).below hb2 (by have := hb1.size; simp at this; omega)
  have hB : RcAt w2 (w.heap.size + 1) b := ((RcAt.newAt (by simp) b).below hb1 (by simp)).below hb2 (by have := hb1.size; simp at this; omega)
  have hw : Below w.heap.size w w2 := ((((((Below.refl _ _).alloc (Nat.le_refl _) _).alloc (by simp) _)).trans (hb1.mono (by simp; omega))).trans (hb2.mono (by have := hb1.size; simp at this; omega)))
  have hz2 := hB.lt
  obtain ⟨a0, a1, a2, a3⟩ := hA.cells
  obtain ⟨b0, b1, b2, b3⟩ := hB.cells
  clear hc hf hb1 hb2 hA hB
  go_wp2_with fail
  go_region_with (first | (go_at_call 77; (with_reducible refine (empI_yes b He.out _).mono ?_); rintro e w' ⟨rfl, rfl⟩))
  all_goals
    go_wp2_with fail
    go_ret
    exact ⟨ret_bool (cov_yes ⟨Ha.out, Hb.out, .inl He.out⟩).symm, (hw.alloc hw.size _).drew⟩
theorem rc_cases (r b : Rc) : (r = b ∧ (r.x == b.x) = true ∧ (r.y == b.y) = true ∧ (r.w == b.w) = true ∧ (r.h == b.h) = true) ∨
    (r ≠ b ∧ ((r.x == b.x) = false ∨ ((r.x == b.x) = true ∧ (r.y == b.y) = false) ∨ ((r.x == b.x) = true ∧ (r.y == b.y) = true ∧ (r.w == b.w) = false) ∨ ((r.x == b.x) = true ∧ (r.y == b.y) = true ∧ (r.w == b.w) = true ∧ (r.h == b.h) = false))) := by
  by_cases h0 : r.x = b.x
  · by_cases h1 : r.y = b.y
    · by_cases h2 : r.w = b.w
      · by_cases h3 : r.h = b.h
        · exact .inl ⟨rc_ext ⟨h0, h1, h2, h3⟩, by simpa using h0, by simpa using h1, by simpa using h2, by simpa using h3⟩
        · exact .inr ⟨fun h => h3 (by rw [h]), .inr (.inr (.inr ⟨by simpa using h0, by simpa using h1, by simpa using h2, by simpa using h3⟩))⟩
      · exact .inr ⟨fun h => h2 (by rw [h]), .inr (.inr (.inl ⟨by simpa using h0, by simpa using h1, by simpa using h2⟩))⟩
    · exact .inr ⟨fun h => h1 (by rw [h]), .inr (.inl ⟨by simpa using h0, by simpa using h1⟩)⟩
  · exact .inr ⟨fun h => h0 (by rw [h]), .inl (by simpa using h0)⟩
set_option maxHeartbeats 2000000 in
theorem coversI_two (a b : Rc) (ha : a.ok) (hb : b.ok) (he : ¬ b.emp) (w : World) :
    Calls Try.prog 76 #[.agg #[.int .i64 a.x, .int .i64 a.y, .int .i64 a.w, .int .i64 a.h], .agg #[.int .i64 b.x, .int .i64 b.y, .int .i64 b.w, .int .i64 b.h]] w
      fun e w' => e = .returned (.bool (covB a b)) ∧ Below w.heap.size w w' := by
  have Ha := Lib.hid ha
  have Hb := Lib.hid hb
  have He := Lib.hid he
  clear ha hb he
  obtain ⟨r, hr⟩ : ∃ r, r = isect a b := ⟨_, rfl⟩
  have hI := isectI_any a b
  rw [← hr] at hI
  have HI := Lib.hid hI
  have Hr := Lib.hid hr
  clear hI hr
  rcases rc_cases r b with ⟨hq, e0, e1, e2, e3⟩ | ⟨hq, hq'⟩
  · have Hq := Lib.hid hq
    clear hq
    go_enter Try.func76, Try.ntmps76
    go_wp2_with fail
    refine (rectOkI_yes a Ha.out _).mono ?_
    rintro e w1 ⟨rfl, hb1⟩
    obtain ⟨hc, hf⟩ := bcell hb1
    go_wp2_with fail
    refine (rectOkI_yes b Hb.out _).mono ?_
    rintro e w2 ⟨rfl, hb2⟩
    have hA : RcAt w2 w.heap.size a := ((((RcAt.new w a).alloc _).below hb1 (by simp; omega))).below hb2 (by have := hb1.size; simp at this; omega)
    have hB : RcAt w2 (w.heap.size + 1) b := ((RcAt.newAt (by simp) b).below hb1 (by simp)).below hb2 (by have := hb1.size; simp at this; omega)
    have hw : Below w.heap.size w w2 := ((((((Below.refl _ _).alloc (Nat.le_refl _) _).alloc (by simp) _)).trans (hb1.mono (by simp; omega))).trans (hb2.mono (by have := hb1.size; simp at this; omega)))
    have hz2 := hB.lt
    obtain ⟨a0, a1, a2, a3⟩ := hA.cells
    obtain ⟨b0, b1, b2, b3⟩ := hB.cells
    clear hc hf hb1 hb2 hA hB
    go_wp2_with fail
    go_region_held3 (fun w' => (w'.cell? ⟨w.heap.size, 0, none⟩ = some (.int .i64 a.x) ∧ w'.cell? ⟨w.heap.size, 1, none⟩ = some (.int .i64 a.y) ∧ w'.cell? ⟨w.heap.size, 2, none⟩ = some (.int .i64 a.w) ∧ w'.cell? ⟨w.heap.size, 3, none⟩ = some (.int .i64 a.h)) ∧
        (w'.cell? ⟨w.heap.size + 1, 0, none⟩ = some (.int .i64 b.x) ∧ w'.cell? ⟨w.heap.size + 1, 1, none⟩ = some (.int .i64 b.y) ∧ w'.cell? ⟨w.heap.size + 1, 2, none⟩ = some (.int .i64 b.w) ∧ w'.cell? ⟨w.heap.size + 1, 3, none⟩ = some (.int .i64 b.h)))
        (first | go_keep | (refine ⟨⟨?_, ?_, ?_, ?_⟩, ?_, ?_, ?_, ?_⟩ <;> (rw [hb3.cell (by simp; omega)]; go_keep)))
        (first | (go_at_call 77; (with_reducible refine (empI_no b He.out _).mono ?_); rintro e w' ⟨rfl, rfl⟩) | (go_at_call 96; (with_reducible refine (HI.out _).mono ?_); rintro e w3 ⟨rfl, hb3⟩))
    all_goals
      go_wp2_with fail
      go_ret
      exact ⟨ret_bool (cov_yes ⟨Ha.out, Hb.out, .inr (Hr.out ▸ Hq.out)⟩).symm, (hw.drew.alloc hw.size _).trans (hb3.mono (by have := hw.size; simp; omega))⟩
  · have Hq := Lib.hid hq
    clear hq
    rcases hq' with e0 | ⟨e0, e1⟩ | ⟨e0, e1, e2⟩ | ⟨e0, e1, e2, e3⟩
    all_goals
      go_enter Try.func76, Try.ntmps76
      go_wp2_with fail
      refine (rectOkI_yes a Ha.out _).mono ?_
      rintro e w1 ⟨rfl, hb1⟩
      obtain ⟨hc, hf⟩ := bcell hb1
      go_wp2_with fail
      refine (rectOkI_yes b Hb.out _).mono ?_
      rintro e w2 ⟨rfl, hb2⟩
      have hA : RcAt w2 w.heap.size a := ((((RcAt.new w a).alloc _).below hb1 (by simp; omega))).below hb2 (by have := hb1.size; simp at this; omega)
      have hB : RcAt w2 (w.heap.size + 1) b := ((RcAt.newAt (by simp) b).below hb1 (by simp)).below hb2 (by have := hb1.size; simp at this; omega)
      have hw : Below w.heap.size w w2 := ((((((Below.refl _ _).alloc (Nat.le_refl _) _).alloc (by simp) _)).trans (hb1.mono (by simp; omega))).trans (hb2.mono (by have := hb1.size; simp at this; omega)))
      have hz2 := hB.lt
      obtain ⟨a0, a1, a2, a3⟩ := hA.cells
      obtain ⟨b0, b1, b2, b3⟩ := hB.cells
      clear hc hf hb1 hb2 hA hB
      go_wp2_with fail
      go_region_held3 (fun w' => (w'.cell? ⟨w.heap.size, 0, none⟩ = some (.int .i64 a.x) ∧ w'.cell? ⟨w.heap.size, 1, none⟩ = some (.int .i64 a.y) ∧ w'.cell? ⟨w.heap.size, 2, none⟩ = some (.int .i64 a.w) ∧ w'.cell? ⟨w.heap.size, 3, none⟩ = some (.int .i64 a.h)) ∧
          (w'.cell? ⟨w.heap.size + 1, 0, none⟩ = some (.int .i64 b.x) ∧ w'.cell? ⟨w.heap.size + 1, 1, none⟩ = some (.int .i64 b.y) ∧ w'.cell? ⟨w.heap.size + 1, 2, none⟩ = some (.int .i64 b.w) ∧ w'.cell? ⟨w.heap.size + 1, 3, none⟩ = some (.int .i64 b.h)))
          (first | go_keep | (refine ⟨⟨?_, ?_, ?_, ?_⟩, ?_, ?_, ?_, ?_⟩ <;> (rw [hb3.cell (by simp; omega)]; go_keep)))
          (first | (go_at_call 77; (with_reducible refine (empI_no b He.out _).mono ?_); rintro e w' ⟨rfl, rfl⟩) | (go_at_call 96; (with_reducible refine (HI.out _).mono ?_); rintro e w3 ⟨rfl, hb3⟩))
      all_goals
        go_wp2_with fail
        go_ret
        exact ⟨ret_bool (cov_no (fun h => h.2.2.elim He.out (fun h => Hq.out (Hr.out.trans h)))).symm, (hw.drew.alloc hw.size _).trans (hb3.mono (by have := hw.size; simp; omega))⟩
theorem coversI_any (a b : Rc) (w : World) :
    Calls Try.prog 76 #[.agg #[.int .i64 a.x, .int .i64 a.y, .int .i64 a.w, .int .i64 a.h], .agg #[.int .i64 b.x, .int .i64 b.y, .int .i64 b.w, .int .i64 b.h]] w
      fun e w' => e = .returned (.bool (covB a b)) ∧ Below w.heap.size w w' := by
  by_cases ha : a.ok
  · by_cases hb : b.ok
    · by_cases he : b.emp
      · exact coversI_emp a b ha hb he w
      · exact coversI_two a b ha hb he w
    · have Ha := Lib.hid ha
      have Hb := Lib.hid hb
      clear ha hb
      go_enter Try.func76, Try.ntmps76
      go_wp2_with fail
      refine (rectOkI_yes a Ha.out _).mono ?_
      rintro e w1 ⟨rfl, hb1⟩
      obtain ⟨hc, hf⟩ := bcell hb1
      go_wp2_with fail
      refine (rectOkI_no b Hb.out _).mono ?_
      rintro e w2 ⟨rfl, hb2⟩
      go_wp2_with fail
      go_ret
      exact ⟨ret_bool (cov_no (fun h => Hb.out h.2.1)).symm, ((((((Below.refl _ _).alloc (Nat.le_refl _) _).alloc (by simp) _)).trans (hb1.mono (by simp; omega))).trans (hb2.mono (by have := hb1.size; simp at this; omega)))⟩
  · have Ha := Lib.hid ha
    clear ha
    go_enter Try.func76, Try.ntmps76
    go_wp2_with fail
    refine (rectOkI_no a Ha.out _).mono ?_
    rintro e w1 ⟨rfl, hb1⟩
    go_wp2_with fail
    go_ret
    exact ⟨ret_bool (cov_no (fun h => Ha.out h.1)).symm, ((((Below.refl _ _).alloc (Nat.le_refl _) _).alloc (by simp) _)).trans (hb1.mono (by simp; omega))⟩
end Go.Proofs.Ytaggldhlnjbnhaa
