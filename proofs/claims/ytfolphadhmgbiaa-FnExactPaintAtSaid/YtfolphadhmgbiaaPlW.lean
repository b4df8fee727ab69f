/- Making and appending rows of placed surfaces in a region of fixed order. No statement is proved here. -/
import Derived.Test.YtfolphadhmgbiaaMA
import Derived.Test.YtfolphadhmgbiaaMB
import Derived.Test.YtfolphadhmgbiaaSlE
import Derived.Test.YtfolphadhmgbiaaMC
import Derived.Test.YtfolphadhmgbiaaSfP
import Derived.Test.YtfolphadhmgbiaaSnS
import Derived.Test.YtfolphadhmgbiaaOcM
import Derived.Test.YtfolphadhmgbiaaPlH
import Derived.Test.YtfolphadhmgbiaaProg
import Derived.WalkKit
import Derived.ProofKit
import Derived.OpenShut
import Derived.WalkLawsBesides
import Derived.WalkSpells
import Derived.ShutString
import Derived.ChangeOld
import Derived.Below
import Derived.Lib.Hide
import Derived.BigQuiet
import Derived.Deep.QuietTactic
import Derived.Maps.AppendAt
import Derived.Deep.OwnRows
import Derived.Handy
import Derived.Deep.Draws
import Derived.OwnWalk
import Derived.Deep.AppendLies
import Derived.Deep.LoopGhost
import Derived.Deep.Onto
import Derived.Deep.MidRow
import Derived.Deep.WholeRow
import Derived.Laws.BitsAllLaws
import Derived.Lib.QuoteBits
import Derived.Deep.RegionHeld3
import Derived.Deep.DeepCutAuto
import Derived.Test.YtfolphadhmgbiaaShelf
import Derived.Laws.CopyOwn
import Derived.Deep.RegionLaw
import Derived.Great.BuildSlice
import Derived.Shelf.RegionOpenPlain
import Derived.Lib.SliceRun
import Derived.Deep.RegionWith
import Derived.Laws.AppendOwn
import Derived.ChangeKeysEq
import Derived.Deep.DeepAppendRoom
namespace Go.Proofs.Ytfolphadhmgbiaa
open Go.RowKit
theorem below_grown0 {w w' : World} (h : w.grownBy w' none) : Below w.heap.size w w' := ⟨h.os, h.tape, h.output, h.size, fun k hk => h.block k hk (by simp)⟩
theorem HalfP.len {B : Nat} {w : World} {M : List Pl} {A : Option Addr} {n c : Nat} {bs : List Nat} (h : HalfP B w M (.slice A n c) bs) : n = M.length := by
  obtain ⟨xs, bss, hr, hls, how, rfl⟩ := h.ex
  rcases how.2 with ⟨e, e2⟩ | ⟨g', cap, cur, e, _⟩
  · injection e with _ e _; omega
  · injection e with _ e _
theorem wpList_append_pl {ops : Array Oper} {rest : List Oper} {o : Oper} {a : Act} {w : World} {Q : Exit → Act → World → Prop} (hgd : o.guard = none) (s x : Operand)
    (ho : o.op = .call { callee := .builtin .append, args := #[s, x], argTypes := #[122, 122] })
    (B g n c : Nat) (M : List Pl) (bs : List Nat) (hs : a.eval s = .slice (some ⟨g, 0, none⟩) n c) (hown : HalfP B w M (.slice (some ⟨g, 0, none⟩) n c) bs) (hroom : n + 1 ≤ c) (g1 : Nat) (hx : a.eval x = .slice (some ⟨g1, 0, none⟩) 1 1)
    (f : Sf) (L : List Rc) (u d : Value) (bd : List Nat) (hg1 : BkAt w g1 127 #[u, .int .i64 f.id, .int .i64 f.x, .int .i64 f.y, .int .i64 f.w, .int .i64 f.h, .int .i64 f.alpha, .int .i64 f.orient, .bool f.vis, .int .i64 f.bw, .int .i64 f.bh, d]) (hu : w.ownsRow 0 49 4 u L.length (rcsCells L)) (hd : repInts.R w f.data [d] bd) (h1 : g ∉ u.ownBlock.toList) (h2 : g ∉ bd)
    (h : ∀ w', HalfP B w' (M ++ [(f, L)]) (.slice (some ⟨g, 0, none⟩) (n + 1) c) (bs ++ (u.ownBlock.toList ++ bd)) → w.grownBy w' (some g) → wpList Try.prog ops Q rest (a.put o.dst (.slice (some ⟨g, 0, none⟩) (n + 1) c)) w') : wpList Try.prog ops Q (o :: rest) a w := by
  obtain ⟨i0, hi, hz0, hz1, hby⟩ := info2_pl
  have hn := hown.len
  have hne := hown.ne
  obtain ⟨xs, bss, hr, hls, how, rfl⟩ := hown.ex
  rw [← hn] at how
  have hone : ∀ y ∈ u :: sfCells f d, y.oneCell' = true := fun y hy => by
    have := rowsPl_one (w := w) (L := [(f, L)]) (xs := [u :: sfCells f d]) (bss := [u.ownBlock.toList ++ bd]) ⟨⟨u, d, bd, rfl, hu, hd, rfl⟩, trivial⟩ y (by simpa using hy)
    exact this
  refine wpList_append_own_spare w hgd s x 122 ho B 127 i0 12 Try.underlying122 hi hz1 g n c xs.flatten hs how ⟨g1, 0, none⟩ 1 1 (u :: sfCells f d) hx rfl (World.news_of_block (cs := #[u, .int .i64 f.id, .int .i64 f.x, .int .i64 f.y, .int .i64 f.w, .int .i64 f.h, .int .i64 f.alpha, .int .i64 f.orient, .bool f.vis, .int .i64 f.bw, .int .i64 f.bh, d]) (fr := (0, 0)) hg1) hone hroom (fun w' q1 q2 => h w' ?_ q2)
  have hch := Chg.of_grown q2
  have hng : ∀ q ∈ bss.flatten, q ≠ g := fun q hq e => hne q hq (by rw [e]; simp [Value.ownBlock])
  refine ⟨⟨xs ++ [u :: sfCells f d], bss ++ [u.ownBlock.toList ++ bd], ?_, ?_, ?_, by simp⟩, ?_⟩
  · exact rowsR_snoc (rowsR_keep hr fun b hb => hch.block b (rowsR_ex hr b hb) fun e => hng b hb (by simpa using e)) ⟨u, d, bd, rfl, own_chgN hu hch fun b hb e => h1 (by rw [← show b = g by simpa using e]; exact hb), Rep.chg hd hch fun b hb e => h2 (by rw [← show b = g by simpa using e]; exact hb), rfl⟩
  · intro y hy
    rcases List.mem_append.1 hy with hy | hy
    · exact hls y hy
    · rw [List.mem_singleton.1 hy]; rfl
  · rw [List.flatten_append, List.length_append, ← hn]
    simpa using q1
  · intro b hb e
    obtain rfl : b = g := by simpa [Value.ownBlock] using e
    rcases List.mem_append.1 hb with hb | hb
    · exact hng b hb rfl
    · rcases List.mem_append.1 hb with hb | hb
      · exact h1 hb
      · exact h2 hb
/-- The list of a scene's surfaces with the points of each on the screen. -/
noncomputable def plL (W H : Int) (fs : List Sf) : List Pl := fs.map fun f => (f, ocP W H f)
theorem plL_len (W H : Int) (fs : List Sf) : (plL W H fs).length = fs.length := List.length_map _
theorem plL_take (W H : Int) {fs : List Sf} {k : Nat} {f : Sf} (h : fs[k]? = some f) : plL W H (fs.take (k + 1)) = plL W H (fs.take k) ++ [(f, ocP W H f)] := by
  unfold plL
  rw [List.take_add_one, h, Option.toList_some, List.map_append]
  rfl
end Go.Proofs.Ytfolphadhmgbiaa
