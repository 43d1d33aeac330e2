/-
  What is proved here: how slots that are handed in look.
-/
import Derived.Test.YtnnlfeimebiboaaGreatDoorG36
import Derived.Test.YtnnlfeimebiboaaGreatDoorG5
namespace Go.Proofs.YtnnlfeimebiboaaGreatDoor
open Go.ChangeShapes Go.WideShapes Go.ChangeAt Go.RowKit

set_option maxRecDepth 100000 in
theorem sl_at {H : Type} {enc : TypeId × Value → H} {W : World} {spare : Nat → Bool} {held : Bool} {n : Nat} {cs : List Value} {x : DataW H × List MemPlace}
    (hl : cs.length = 2) (ht : DataW.trod enc Tryz.prog W 0 spare held n 25 cs = some x) : ∃ q : Sl, cs = slL q := by
  obtain ⟨xs, m, _, _, _, hxl, hf⟩ := DataW.trod_struct Tryz.underlying25 ht
  have c3 : Tryz.prog.cellsOf 3 = 1 := by kernel_rfl
  have f0 : DataW.trod enc Tryz.prog W 0 spare held m 3 ((cs.drop 0).take (Tryz.prog.cellsOf 3)) = xs[0]? := hf 0 _ rfl
  have f1 : DataW.trod enc Tryz.prog W 0 spare held m 3 ((cs.drop 1).take (Tryz.prog.cellsOf 3)) = xs[1]? := hf 1 _ rfl
  simp only [c3] at f0 f1
  have hsz : xs.length = 2 := hxl
  obtain ⟨y0, y1, rfl⟩ : ∃ y0 y1, xs = [y0, y1] := by
    match xs, hsz with
    | [y0, y1], _ => exact ⟨_, _, rfl⟩
  obtain ⟨z0, z1, rfl⟩ : ∃ z0 z1, cs = [z0, z1] := by
    match cs, hl with
    | [z0, z1], _ => exact ⟨_, _, rfl⟩
  obtain ⟨a0, e0, _, _⟩ := DataW.trod_int Tryz.underlying3 f0
  obtain ⟨a1, e1, _, _⟩ := DataW.trod_int Tryz.underlying3 f1
  simp at e0 e1
  subst e0 e1
  exact ⟨⟨a0, a1⟩, rfl⟩
theorem slots_in {H : Type} {enc : TypeId × Value → H} {W : World} {spare : Nat → Bool} {v : Value} {d : DataW H} {p : List MemPlace}
    (h : ∃ m, DataW.trod enc Tryz.prog W 0 spare true m 23 [v] = some (d, p)) : ∃ l : List Sl, SlsAt W v l ∧ l.length ≤ 9223372036854775807 := by
  obtain ⟨m, hm⟩ := h
  have c8 : Tryz.prog.cellsOf 25 = 2 := by kernel_rfl
  obtain ⟨v', qs, e, hR, hl, _⟩ := recs_in (α := Sl) (k := 2) (f := slL) Tryz.underlying23 c8 (by decide) (fun _ _ _ h1 h2 => sl_at h1 h2) hm
  cases e
  exact ⟨qs, hR, hl⟩
set_option maxRecDepth 100000 in
/-- A slot that is handed in. -/
theorem open_slot {H : Type} {enc : TypeId × Value → H} {W : World} {v : Value} {d : DataW H} {ps : List MemPlace} {base : Nat} (hok : Value.okWide Tryz.prog W .any base 25 v)
    (h : DataW.Trod enc Tryz.prog W 0 (fun _ => true) true 25 v d ps) : ∃ a : Sl, v = .agg (slL a).toArray := by
  obtain ⟨cs, rfl, hsz⟩ := okWide_struct Tryz.underlying25 hok
  obtain ⟨fuel, hf⟩ := h
  have c34 : Tryz.prog.cellsOf 25 = 2 := by kernel_rfl
  obtain ⟨a, hs⟩ := sl_at (cs := cs.toList) (by rw [c34] at hsz; simpa using hsz) hf
  refine ⟨a, ?_⟩
  rw [← hs]
end Go.Proofs.YtnnlfeimebiboaaGreatDoor
