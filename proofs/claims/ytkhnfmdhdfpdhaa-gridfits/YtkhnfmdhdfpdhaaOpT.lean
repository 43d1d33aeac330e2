/-
  What is proved here: how a table that is handed in looks.
-/
import Derived.Test.YtkhnfmdhdfpdhaaOpenP
namespace Go.Proofs.Ytkhnfmdhdfpdhaa
open Go.ChangeShapes Go.WideShapes Go.ChangeAt Go.RowKit

/-- A text that a slice may have. -/
structure Bst where
  one : ByteArray
  le : one.size ≤ 9223372036854775807
theorem str_at2 {H : Type} {enc : TypeId × Value → H} {W : World} {spare : Nat → Bool} {n : Nat} {cs : List Value} {x : DataW H × List MemPlace}
    (ht : DataW.trod enc Try.prog W 0 spare true n 9 cs = some x) : ∃ q : Bst, cs = [.string q.one] := by
  obtain ⟨q, e, _, h⟩ := DataW.trod_string Try.underlying9 ht
  exact ⟨⟨q, by unfold maxLen at h; omega⟩, e⟩
theorem strs_of_rec2 {W : World} {v : Value} {qs : List Bst} (h : RecAt 1 (fun t => [Value.string t.one]) W v qs) : StrsAt W v (qs.map (·.one)) := by
  have hle := h.le
  obtain ⟨a, cap, rfl, h2⟩ := h.ex
  refine ⟨⟨a, cap, by rw [List.length_map], ?_⟩, hle⟩
  rcases h2 with h2 | ⟨b, o, rfl, hb, hc⟩
  · exact .inl (by rw [h2]; rfl)
  · refine .inr ⟨b, o, rfl, hb, fun i hi => ?_⟩
    have hi' : i < qs.length := by simpa using hi
    have := hc i hi' 0 _ rfl
    rw [List.getElem_map]
    simpa using this
set_option maxRecDepth 100000 in
theorem table_at {H : Type} {enc : TypeId × Value → H} {W : World} {spare : Nat → Bool} {n : Nat} {cs : List Value} {x : DataW H × List MemPlace}
    (hl : cs.length = 2) (ht : DataW.trod enc Try.prog W 0 spare true n 24 cs = some x) : ∃ (c : Int) (v : Value) (l : List ByteArray), cs = [.int .i64 c, v] ∧ StrsAt W v l ∧ l.length ≤ 9223372036854775807 ∧ ∀ t ∈ l, t.size ≤ 9223372036854775807 := by
  obtain ⟨xs, m, _, _, _, hxl, hf⟩ := DataW.trod_struct Try.underlying24 ht
  have c3 : Try.prog.cellsOf 3 = 1 := by kernel_rfl
  have c22 : Try.prog.cellsOf 22 = 1 := by kernel_rfl
  have c9 : Try.prog.cellsOf 9 = 1 := by kernel_rfl
  have f0 : DataW.trod enc Try.prog W 0 spare true m 3 ((cs.drop 0).take (Try.prog.cellsOf 3)) = xs[0]? := hf 0 _ rfl
  have f1 : DataW.trod enc Try.prog W 0 spare true m 22 ((cs.drop 1).take (Try.prog.cellsOf 22)) = xs[1]? := hf 1 _ rfl
  simp only [c3, c22] at f0 f1
  have hsz : xs.length = 2 := hxl
  obtain ⟨y0, y1, rfl⟩ : ∃ y0 y1, xs = [y0, y1] := by
    match xs, hsz with
    | [y0, y1], _ => exact ⟨_, _, rfl⟩
  obtain ⟨z0, z1, rfl⟩ : ∃ z0 z1, cs = [z0, z1] := by
    match cs, hl with
    | [z0, z1], _ => exact ⟨_, _, rfl⟩
  obtain ⟨a0, e0, _, _⟩ := DataW.trod_int Try.underlying3 f0
  obtain ⟨v, qs, e1, hS, hl1, _⟩ := recs_in (α := Bst) (k := 1) (f := fun t => [Value.string t.one]) Try.underlying22 c9 (by decide) (fun _ _ _ _ h2 => str_at2 h2) (show DataW.trod enc Try.prog W 0 spare true m 22 [z1] = some y1 from f1)
  simp at e0 e1
  subst e0 e1
  exact ⟨a0, z1, qs.map (·.one), rfl, strs_of_rec2 hS, by simpa using hl1, fun t ht => by
    obtain ⟨q, _, rfl⟩ := List.mem_map.1 ht
    exact q.le⟩
set_option maxRecDepth 100000 in
/-- A table that is handed in. -/
theorem open_table {H : Type} {enc : TypeId × Value → H} {W : World} {v : Value} {d : DataW H} {ps : List MemPlace} {base : Nat} (hok : Value.okWide Try.prog W .any base 24 v)
    (h : DataW.Trod enc Try.prog W 0 (fun _ => true) true 24 v d ps) : ∃ (c : Int) (u : Value) (l : List ByteArray), v = .agg #[.int .i64 c, u] ∧ StrsAt W u l ∧ l.length ≤ 9223372036854775807 ∧ ∀ t ∈ l, t.size ≤ 9223372036854775807 := by
  obtain ⟨cs, rfl, hsz⟩ := okWide_struct Try.underlying24 hok
  obtain ⟨fuel, hf⟩ := h
  have c24 : Try.prog.cellsOf 24 = 2 := by kernel_rfl
  obtain ⟨c, u, l, hs, h1, h2, h3⟩ := table_at (cs := cs.toList) (by rw [c24] at hsz; simpa using hsz) hf
  refine ⟨c, u, l, ?_, h1, h2, h3⟩
  have : cs = #[.int .i64 c, u] := Array.toList_inj.1 hs
  rw [this]
end Go.Proofs.Ytkhnfmdhdfpdhaa
