/- The contract of impl.FormatInt. No statement is proved here. -/
import Derived.Test.YteichodalcdbcaaDoorStrP
import Derived.Test.YteichodalcdbcaaDoorShelf
import Derived.Lib.AppendIntMem
namespace Go.Proofs.YteichodalcdbcaaDoor
open Go.RowKit
/-- the table of powers that the library reads -/
def Tab (w : World) : Prop := Lib.TabIs Tryd.prog w "internal/strconv.uint64pow10" .u64 Lib.pow10Tab
theorem Tab.on {w w' : World} (h : Tab w) (hb : Below w.heap.size w w') : Tab w' := Lib.tabBelow_of_tabIs h w' hb
/-- the decimal text of a number -/
def dec (n : Int) : ByteArray := ⟨(Lib.itoa n).toArray⟩
theorem fmtI (n : Int) (h0 : -9223372036854775808 ≤ n) (h1 : n ≤ 9223372036854775807) (w : World) (ht : Tab w) :
    Calls Tryd.prog 11 #[.int .i64 n] w fun e w' => e = .returned (.string (dec n)) ∧ Below w.heap.size w w' := by
  have Ht := Lib.hid ht
  clear ht
  go_enter Tryd.func11, Tryd.ntmps11
  go_wp2_with fail
  refine (Tryd.strconv_Itoa n h0 h1 _ Ht.out).mono ?_
  rintro e w1 ⟨rfl, k, os, rfl⟩
  have hb := Lib.below_grow w.heap.size w (Nat.le_refl _) k os
  have Hb := Lib.hid hb
  obtain ⟨w2, hw2⟩ : ∃ w2, w2 = Sort.grow (w.drewN k) os := ⟨_, rfl⟩
  rw [← hw2] at Hb ⊢
  clear hb hw2
  go_wp2_with fail
  go_ret
  exact ⟨rfl, Hb.out⟩
end Go.Proofs.YteichodalcdbcaaDoor
