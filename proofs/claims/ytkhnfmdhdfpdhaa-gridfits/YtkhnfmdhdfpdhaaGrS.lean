/-
  What is proved here: GridFits answers true.
-/
import Derived.Test.YtkhnfmdhdfpdhaaGrQ
import Derived.Test.YtkhnfmdhdfpdhaaGrR
import Derived.Deep.QuietTactic
import Derived.BigQuiet
namespace Go.Proofs.Ytkhnfmdhdfpdhaa
open Go.RowKit Go.Shelf

theorem getD_at {l : List Int} {k : Nat} (h : k < l.length) : l.getD k 0 = l[k] := by rw [List.getD_eq_getElem?_getD, List.getElem?_eq_getElem h]; rfl
theorem in_cell {W W' : World} {v : Value} {l : List Int} {k : Nat} (h : InAt W v l) (hb : Below W.heap.size W W') (hk : k < l.length) : ∃ b o cap, v = .slice (some ⟨b, o, none⟩) l.length cap ∧ W'.cell? ⟨b, o + k, none⟩ = some (.int .i64 (l.getD k 0)) := by
  obtain ⟨a, cap, rfl, h2⟩ := h.ex
  rcases h2 with h2 | ⟨b, o, rfl, hl, hc⟩
  · rw [h2] at hk; simp at hk
  · exact ⟨b, o, cap, rfl, by rw [getD_at hk]; exact (hb.cell hl).trans (InAt.cell hk hc)⟩

set_option maxRecDepth 100000 in
set_option maxHeartbeats 8000000 in
theorem fits_many (c : Int) (v : Value) (l : List ByteArray) (q : Int) (hl : l.length ≤ 9223372036854775807) (hsz : ∀ t ∈ l, t.size ≤ 9223372036854775807) (w : World) (hS : StrsAt w v l) (h100 : 100 < l.length) :
    Calls Try.prog 5 #[.agg #[.int .i64 c, v], .int .i64 q] w fun e w' => e = .returned (.bool true) ∧ Below w.heap.size w w' := by
  have hB0 := (Below.refl w.heap.size w).alloc (Nat.le_refl _) (.cells #[.int .i64 c, v] 24)
  have hS0 := hS.below hB0 (Nat.le_refl _)
  have hs0 : (w.alloc (.cells #[.int .i64 c, v] 24)).heap.size = w.heap.size + 1 := World.size_alloc _ _
  have hbx : (w.alloc (.cells #[.int .i64 c, v] 24)).heap[w.heap.size]? = some (.cells #[.int .i64 c, v] 24) := World.alloc_heap_new w _
  have hkn := known_any
  have hwd := fun W h => widths_any c v l q hl hsz W h
  have hle := fun W h => gleast_any c v l hl hsz W h
  have hmo := fun W h => gmost_any c v l hl hsz W h
  obtain ⟨a, cap, rfl, -⟩ := hS.ex
  clear hS
  have hgt : (100 : Int) < (l.length : Int) := by omega
  clear hwd hle hmo
  go_enter Try.func5, Try.ntmps5
  go_wp2_with (go_at_call 4; refine (hkn _).mono ?_; rintro e w1 ⟨rfl, b1⟩; have hx1 := (b1.block w.heap.size (by omega)).trans hbx; (have c0 : w1.cell? ⟨w.heap.size, 0, none⟩ = some (.int .i64 c) := by rw [Lib.cell_of_heap hx1]; rfl); (have c1 : w1.cell? ⟨w.heap.size, 1, none⟩ = some (.slice a l.length cap) := by rw [Lib.cell_of_heap hx1]; rfl); have hB1 := hB0.trans (b1.mono hB0.size); have hS1 := hS0.below b1 (Nat.le_refl _); have hlt1 := (Array.getElem?_eq_some_iff.1 hx1).1)
  go_ret
  exact ⟨rfl, hB1⟩

set_option maxRecDepth 100000 in
set_option maxHeartbeats 8000000 in
theorem fits_err (c : Int) (v : Value) (l : List ByteArray) (q : Int) (hl : l.length ≤ 9223372036854775807) (hsz : ∀ t ∈ l, t.size ≤ 9223372036854775807) (w : World) (hS : StrsAt w v l) (h100 : ¬ 100 < l.length) (hbad : chkG c l ≠ 0 ∨ ¬ (0 ≤ q ∧ q ≤ 4095)) :
    Calls Try.prog 5 #[.agg #[.int .i64 c, v], .int .i64 q] w fun e w' => e = .returned (.bool true) ∧ Below w.heap.size w w' := by
  have hB0 := (Below.refl w.heap.size w).alloc (Nat.le_refl _) (.cells #[.int .i64 c, v] 24)
  have hS0 := hS.below hB0 (Nat.le_refl _)
  have hs0 : (w.alloc (.cells #[.int .i64 c, v] 24)).heap.size = w.heap.size + 1 := World.size_alloc _ _
  have hbx : (w.alloc (.cells #[.int .i64 c, v] 24)).heap[w.heap.size]? = some (.cells #[.int .i64 c, v] 24) := World.alloc_heap_new w _
  have hkn := known_any
  have hwd := fun W h => widths_any c v l q hl hsz W h
  have hle := fun W h => gleast_any c v l hl hsz W h
  have hmo := fun W h => gmost_any c v l hl hsz W h
  obtain ⟨a, cap, rfl, -⟩ := hS.ex
  clear hS
  have hgt : ¬ (100 : Int) < (l.length : Int) := by omega
  have hw : ∀ W, StrsAt W (.slice a l.length cap) l → Calls Try.prog 11 #[.agg #[.int .i64 c, .slice a l.length cap], .int .i64 q] W fun e w' => ∃ x : Int, e = .returned (.tuple #[.slice none 0 0, .bool false, .int .i64 x]) ∧ x ≠ 0 ∧ Below W.heap.size W w' := fun W h => by
    refine (hwd W h).mono ?_
    rintro e w' ⟨hb, h | h | h⟩
    · exact ⟨_, h.2, h.1, hb⟩
    · exact ⟨_, h.2.2, by omega, hb⟩
    · rcases hbad with hb2 | hb2
      · exact absurd h.1 hb2
      · exact absurd h.2.1 hb2
  clear hwd hle hmo hbad
  go_enter Try.func5, Try.ntmps5
  go_wp2_with (first | (go_at_call 4; refine (hkn _).mono ?_; rintro e w1 ⟨rfl, b1⟩; have hx1 := (b1.block w.heap.size (by omega)).trans hbx; (have c0 : w1.cell? ⟨w.heap.size, 0, none⟩ = some (.int .i64 c) := by rw [Lib.cell_of_heap hx1]; rfl); (have c1 : w1.cell? ⟨w.heap.size, 1, none⟩ = some (.slice a l.length cap) := by rw [Lib.cell_of_heap hx1]; rfl); have hB1 := hB0.trans (b1.mono hB0.size); have hS1 := hS0.below b1 (Nat.le_refl _); have hlt1 := (Array.getElem?_eq_some_iff.1 hx1).1) | (go_at_call 11; refine (hw _ hS1).mono ?_; rintro e w2 ⟨x, rfl, hne, b2⟩; have hB2 := hB1.trans (b2.mono hB1.size)))
  go_ret
  exact ⟨rfl, hB2⟩
end Go.Proofs.Ytkhnfmdhdfpdhaa
