/- Plain facts: the fields of a line, joined by single spaces, have the same fields. No statement is proved here. -/
import Derived.Test.YteichodalcdbcaaDoorSplitP
namespace Go.Proofs.YteichodalcdbcaaDoor
open Go.RowKit

def join (fs : List ByteArray) : List UInt8 := fs.flatMap fun f => f.data.toList ++ [32]
theorem join_snoc (fs : List ByteArray) (f : ByteArray) : join (fs ++ [f]) = join fs ++ (f.data.toList ++ [32]) := by simp [join]
theorem join_append (a b : List ByteArray) : join (a ++ b) = join a ++ join b := by simp [join]
/-- a field: not empty, without spaces, of characters that a line may have -/
structure IsField (f : ByteArray) : Prop where
  pos : 0 < f.size
  le : f.size ≤ 600
  chars : ∀ c ∈ f.data.toList, c ≠ 32 ∧ 32 ≤ c.toNat ∧ c.toNat ≤ 126

theorem toList_extract (s : ByteArray) (a b : Nat) : (s.extract a b).data.toList = (s.data.toList.drop a).take (b - a) := by
  rw [ByteArray.data_extract, Array.toList_extract]
theorem mem_extract {s : ByteArray} {a b : Nat} {c : UInt8} (h : c ∈ (s.extract a b).data.toList) : ∃ i, a ≤ i ∧ i < b ∧ i < s.size ∧ c = chr s i := by
  rw [toList_extract] at h
  obtain ⟨j, hj, rfl⟩ := List.mem_iff_getElem.1 h
  simp only [List.length_take, List.length_drop, Array.length_toList] at hj
  have hsz : s.data.size = s.size := rfl
  refine ⟨a + j, by omega, by omega, by omega, ?_⟩
  rw [List.getElem_take, List.getElem_drop]
  unfold chr
  rw [List.getD_eq_getElem?_getD, List.getElem?_eq_getElem (by simp; omega)]
  rfl

theorem scan_fields (s : ByteArray) (hs : s.size ≤ 600) (hok : ∀ k, k < s.size → okAt s k) (k : Nat) (hk : k ≤ s.size + 1) :
    (∀ f ∈ (scan s k).1, IsField f) ∧ ∀ i, (scan s k).2 ≤ i → i < k → chr s i ≠ 32 := by
  induction k with
  | zero => exact ⟨by simp [scan], fun i _ h => by omega⟩
  | succ k ih =>
    obtain ⟨h1, h2⟩ := ih (by omega)
    by_cases h : chr s k = 32
    · rw [scan_sp s k h]
      refine ⟨fun f hf => ?_, fun i hi hi2 => by simp at hi; omega⟩
      rcases List.mem_append.1 hf with hf | hf
      · exact h1 f hf
      · unfold seg at hf
        split at hf
        · rename_i hlt
          obtain rfl : f = s.extract (scan s k).2 k := by simpa using hf
          have hsz : (s.extract (scan s k).2 k).size = k - (scan s k).2 := by rw [ByteArray.size_extract]; omega
          refine ⟨by omega, by omega, fun c hc => ?_⟩
          obtain ⟨i, hi1, hi2, hi3, rfl⟩ := mem_extract hc
          exact ⟨h2 i hi1 hi2, (hok i hi3).1, (hok i hi3).2⟩
        · simp at hf
    · rw [scan_no s k h]
      refine ⟨h1, fun i hi hi2 => ?_⟩
      by_cases e : i = k
      · subst e; exact h
      · exact h2 i hi (by omega)
theorem fields_are {s : ByteArray} {fs : List ByteArray} (h : fieldsOf s = some fs) : (∀ f ∈ fs, IsField f) ∧ fs.length ≤ 24 := by
  unfold fieldsOf at h
  split at h
  · rename_i hc
    injection h with h
    subst h
    exact ⟨(scan_fields s hc.1 hc.2.1 (s.size + 1) (Nat.le_refl _)).1, hc.2.2⟩
  · cases h

theorem ba_ext {a b : ByteArray} (h : a.data.toList = b.data.toList) : a = b := by
  obtain ⟨⟨p⟩⟩ := a
  obtain ⟨⟨r⟩⟩ := b
  simp at h; rw [h]
theorem chr_at {s : ByteArray} {A F R : List UInt8} (h : s.data.toList = A ++ (F ++ R)) (i : Nat) (hi : i < F.length) : chr s (A.length + i) = F[i] := by
  unfold chr
  rw [h, List.getD_eq_getElem?_getD, List.getElem?_append_right (by omega), Nat.add_sub_cancel_left, List.getElem?_append_left (by omega), List.getElem?_eq_getElem hi]
  rfl
theorem scan_join (s : ByteArray) (done rest : List ByteArray) (hs : s.data.toList = join (done ++ rest)) (hf : ∀ f ∈ done ++ rest, IsField f) : scan s (join done).length = (done, (join done).length) := by
  obtain ⟨n, hn⟩ : ∃ n, done.length = n := ⟨_, rfl⟩
  induction n generalizing done rest with
  | zero =>
    obtain rfl := List.eq_nil_of_length_eq_zero hn
    rfl
  | succ n ih =>
    have hne : done ≠ [] := by rintro rfl; simp at hn
    obtain ⟨d, f, rfl⟩ : ∃ d f, done = d ++ [f] := ⟨done.dropLast, done.getLast hne, (List.dropLast_concat_getLast hne).symm⟩
    have h0 := ih d (f :: rest) (by rw [hs]; simp) (by simpa using hf) (by simpa using hn)
    clear hn
    obtain ⟨done, rfl⟩ : ∃ done, done = d := ⟨_, rfl⟩
    have hF : IsField f := hf f (by simp)
    have hlay : s.data.toList = join done ++ (f.data.toList ++ (32 :: join rest)) := by rw [hs, join_append, join_snoc]; simp
    have hlay2 : s.data.toList = (join done ++ f.data.toList) ++ ([32] ++ join rest) := by rw [hlay]; simp
    have hn : f.data.toList.length = f.size := by rw [Array.length_toList]; rfl
    have hmid : ∀ i, i ≤ f.size → scan s ((join done).length + i) = (done, (join done).length) := by
      intro i hi
      induction i with
      | zero => exact h0
      | succ i ih2 =>
        have hc := chr_at hlay i (by omega)
        rw [← Nat.add_assoc, scan_no _ _ (by rw [hc]; exact (hF.chars _ (List.getElem_mem _)).1)]
        exact ih2 (by omega)
    have hsp : chr s ((join done).length + f.size) = 32 := by
      have := chr_at hlay2 0 (by simp)
      rw [List.length_append, hn] at this
      simpa using this
    have hend := hmid f.size (Nat.le_refl _)
    have hl : (join (done ++ [f])).length = (join done).length + f.size + 1 := by rw [join_snoc]; simp [hn]; omega
    have hpos := hF.pos
    rw [hl, scan_sp _ _ hsp, hend]
    have hseg : seg s (join done).length ((join done).length + f.size) = [f] := by
      unfold seg
      rw [if_pos (by omega)]
      congr 1
      apply ba_ext
      rw [toList_extract, hlay, List.drop_left, Nat.add_sub_cancel_left, ← hn, List.take_left]
    show (done ++ seg s (join done).length ((join done).length + f.size), _) = _
    rw [hseg]
theorem fields_join {fs : List ByteArray} {s : ByteArray} (hs : s.data.toList = join fs) (hf : ∀ f ∈ fs, IsField f) (hn : fs.length ≤ 24) (hsz : s.size ≤ 600) : fieldsOf s = some fs := by
  have hl : s.data.toList.length = s.size := by rw [Array.length_toList]; rfl
  have h1 := scan_join s fs [] (by simpa using hs) (by simpa using hf)
  rw [← hs, hl] at h1
  have h2 : scan s (s.size + 1) = (fs, s.size + 1) := by
    rw [scan_sp _ _ (chr_end s s.size (Nat.le_refl _)), h1]
    simp [seg]
  have hok : ∀ k, k < s.size → okAt s k := by
    intro k hk
    have hmem : chr s k ∈ join fs := by rw [← hs, chr_in s k hk]; exact List.mem_of_getElem (i := k) (h := by simpa using hk) rfl
    unfold join at hmem
    obtain ⟨f, hfm, hc⟩ := List.mem_flatMap.1 hmem
    unfold okAt
    rcases List.mem_append.1 hc with hc | hc
    · exact ⟨((hf f hfm).chars _ hc).2.1, ((hf f hfm).chars _ hc).2.2⟩
    · have e : chr s k = 32 := by simpa using hc
      rw [e]; decide
  rw [fields_good hsz hok (by rw [h2]; exact hn), h2]
theorem join_le (fs : List ByteArray) (hf : ∀ f ∈ fs, IsField f) : (join fs).length ≤ 601 * fs.length := by
  induction fs with
  | nil => simp [join]
  | cons f fs ih =>
    have h1 := ih (fun g hg => hf g (by simp [hg]))
    have h2 := (hf f (by simp)).le
    have hn : f.data.toList.length = f.size := by rw [Array.length_toList]; rfl
    have e : join (f :: fs) = f.data.toList ++ [32] ++ join fs := by simp [join]
    rw [e]; simp only [List.length_append, List.length_cons, List.length_nil, hn]; omega
end Go.Proofs.YteichodalcdbcaaDoor
