/-
  What is proved here: that the listed table of blanks lies in memory as the library's contracts ask; how items that are handed in look.
-/
import Derived.Test.YtnnlfeimebiboaaGreatDoorG35
import Derived.Test.YtnnlfeimebiboaaGreatDoorG29
import Derived.Maps.OwnSet
import Derived.Shelf.Strings.OnBuilder
import Derived.Shelf.Strings.Search2
import Derived.Shelf.Strings.Search3
import Derived.Shelf.Strings.Count
import Derived.Shelf.Strings.Prefix
import Derived.Shelf.Strings.Fields
import Derived.Shelf.Slices.Clone
import Derived.Test.YtnnlfeimebiboaaGreatDoorProg
import Derived.Test.YtnnlfeimebiboaaGreatDoorG1
import Derived.RangeFuncNested
import Derived.RangeFuncBound
import Derived.RangeFuncCalls
import Derived.RangeFuncLeaves
import Derived.Shelf.Abstract
import Derived.Shelf.RegionOpen
import Derived.OwnWalkIn
import Derived.TacticsInMore
import Derived.LoopNIn
import Derived.LoopIn
import Derived.Lib.Builder
import Derived.Laws.IdiomStrings
import Derived.Test.YtnnlfeimebiboaaGreatDoorG4
import Derived.Test.YtnnlfeimebiboaaGreatDoorCards
import Derived.Test.YtnnlfeimebiboaaGreatDoorTie
import Derived.ProofKit
import Derived.OpenShut
import Derived.LaidMore
import Derived.Lay
import Derived.Lib.LaidU8
import Derived.SevenTiedAt
import Derived.Stop.Joined
namespace Go.Proofs.YtnnlfeimebiboaaGreatDoor
open Go.ChangeShapes Go.WideShapes Go.ChangeAt Go.RowKit

/-- The listed variables. -/
def laidL : List (String × DataW Unit) := [("unicode/utf8.acceptRanges", Rows.laid_unicode_utf8_acceptRanges), ("unicode.White_Space", Rows.laid_unicode_White_Space), ("strings.asciiSpace", Rows.laid_strings_asciiSpace), ("unicode.CaseRanges", Rows.laid_unicode_CaseRanges), ("unicode/utf8.first", Rows.laid_unicode_utf8_first)]

set_option maxRecDepth 100000 in
theorem it_at {H : Type} {enc : TypeId × Value → H} {W : World} {spare : Nat → Bool} {held : Bool} {n : Nat} {cs : List Value} {x : DataW H × List MemPlace}
    (hl : cs.length = 8) (ht : DataW.trod enc Tryz.prog W 0 spare held n 43 cs = some x) : ∃ q : It, cs = itL q := by
  obtain ⟨xs, m, _, _, _, hxl, hf⟩ := DataW.trod_struct Tryz.underlying43 ht
  have c3 : Tryz.prog.cellsOf 3 = 1 := by kernel_rfl
  have c4 : Tryz.prog.cellsOf 4 = 1 := by kernel_rfl
  have f0 : DataW.trod enc Tryz.prog W 0 spare held m 3 ((cs.drop 0).take (Tryz.prog.cellsOf 3)) = xs[0]? := hf 0 _ rfl
  have f1 : DataW.trod enc Tryz.prog W 0 spare held m 3 ((cs.drop 1).take (Tryz.prog.cellsOf 3)) = xs[1]? := hf 1 _ rfl
  have f2 : DataW.trod enc Tryz.prog W 0 spare held m 3 ((cs.drop 2).take (Tryz.prog.cellsOf 3)) = xs[2]? := hf 2 _ rfl
  have f3 : DataW.trod enc Tryz.prog W 0 spare held m 3 ((cs.drop 3).take (Tryz.prog.cellsOf 3)) = xs[3]? := hf 3 _ rfl
  have f4 : DataW.trod enc Tryz.prog W 0 spare held m 3 ((cs.drop 4).take (Tryz.prog.cellsOf 3)) = xs[4]? := hf 4 _ rfl
  have f5 : DataW.trod enc Tryz.prog W 0 spare held m 3 ((cs.drop 5).take (Tryz.prog.cellsOf 3)) = xs[5]? := hf 5 _ rfl
  have f6 : DataW.trod enc Tryz.prog W 0 spare held m 3 ((cs.drop 6).take (Tryz.prog.cellsOf 3)) = xs[6]? := hf 6 _ rfl
  have f7 : DataW.trod enc Tryz.prog W 0 spare held m 4 ((cs.drop 7).take (Tryz.prog.cellsOf 4)) = xs[7]? := hf 7 _ rfl
  simp only [c3] at f0 f1 f2 f3 f4 f5 f6
  simp only [c4] at f7
  have hsz : xs.length = 8 := hxl
  obtain ⟨y0, y1, y2, y3, y4, y5, y6, y7, rfl⟩ : ∃ y0 y1 y2 y3 y4 y5 y6 y7, xs = [y0, y1, y2, y3, y4, y5, y6, y7] := by
    match xs, hsz with
    | [y0, y1, y2, y3, y4, y5, y6, y7], _ => exact ⟨_, _, _, _, _, _, _, _, rfl⟩
  obtain ⟨z0, z1, z2, z3, z4, z5, z6, z7, rfl⟩ : ∃ z0 z1 z2 z3 z4 z5 z6 z7, cs = [z0, z1, z2, z3, z4, z5, z6, z7] := by
    match cs, hl with
    | [z0, z1, z2, z3, z4, z5, z6, z7], _ => exact ⟨_, _, _, _, _, _, _, _, rfl⟩
  obtain ⟨a0, e0, _, _⟩ := DataW.trod_int Tryz.underlying3 f0
  obtain ⟨a1, e1, _, _⟩ := DataW.trod_int Tryz.underlying3 f1
  obtain ⟨a2, e2, _, _⟩ := DataW.trod_int Tryz.underlying3 f2
  obtain ⟨a3, e3, _, _⟩ := DataW.trod_int Tryz.underlying3 f3
  obtain ⟨a4, e4, _, _⟩ := DataW.trod_int Tryz.underlying3 f4
  obtain ⟨a5, e5, _, _⟩ := DataW.trod_int Tryz.underlying3 f5
  obtain ⟨a6, e6, _, _⟩ := DataW.trod_int Tryz.underlying3 f6
  obtain ⟨a7, e7, _⟩ := DataW.trod_bool Tryz.underlying4 f7
  simp at e0 e1 e2 e3 e4 e5 e6 e7
  subst e0 e1 e2 e3 e4 e5 e6 e7
  exact ⟨⟨a0, a1, a2, a3, a4, a5, a6, a7⟩, rfl⟩
theorem items_in {H : Type} {enc : TypeId × Value → H} {W : World} {spare : Nat → Bool} {v : Value} {d : DataW H} {p : List MemPlace}
    (h : ∃ m, DataW.trod enc Tryz.prog W 0 spare true m 22 [v] = some (d, p)) : ∃ l : List It, ItsAt W v l ∧ l.length ≤ 9223372036854775807 := by
  obtain ⟨m, hm⟩ := h
  have c8 : Tryz.prog.cellsOf 43 = 8 := by kernel_rfl
  obtain ⟨v', qs, e, hR, hl, _⟩ := recs_in (α := It) (k := 8) (f := itL) Tryz.underlying22 c8 (by decide) (fun _ _ _ h1 h2 => it_at h1 h2) hm
  cases e
  exact ⟨qs, hR, hl⟩
end Go.Proofs.YtnnlfeimebiboaaGreatDoor
