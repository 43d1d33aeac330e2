/-
  What is proved here: the chapter's paragraph.
-/
import Derived.Test.YtidmmllbobimeaaExB
namespace Go.Proofs.Ytidmmllbobimeaa
open Go.RowKit Go.Shelf

def exP (N : Nat) : Pa := { t := { data := #[65, 86] }, sv := .slice (some ⟨N, 0, none⟩) 1 1, p := plainP 16, lb := { data := #[] }, mv := .slice none 0 0, sp := [⟨2, 0, 0, 1⟩], ms := [] }

set_option maxRecDepth 100000 in
set_option maxHeartbeats 2000000 in
theorem example_any (w : World) : Calls Try.prog 25 #[] w fun e w' => ∃ N, e = .returned (paV (exP N)) ∧ PaAt w' (exP N) ∧ Below w.heap.size w w' := by
  have hB := (Below.refl w.heap.size w).alloc (Nat.le_refl _) (Obj.cells #[.string { data := #[] }, .slice none 0 0, .int .i64 0, .int .i64 0, .int .i64 0, .int .i64 0, .int .i64 0, .int .i64 0, .int .i64 0, .int .i64 0, .int .i64 0, .int .i64 0, .int .i64 0, .int .i64 0, .int .i64 0, .int .i64 0, .int .i64 0, .int .i64 0, .int .i64 0, .string { data := #[] }, .slice none 0 0] 34)
  have hz : (w.alloc (.cells #[.string { data := #[] }, .slice none 0 0, .int .i64 0, .int .i64 0, .int .i64 0, .int .i64 0, .int .i64 0, .int .i64 0, .int .i64 0, .int .i64 0, .int .i64 0, .int .i64 0, .int .i64 0, .int .i64 0, .int .i64 0, .int .i64 0, .int .i64 0, .int .i64 0, .int .i64 0, .string { data := #[] }, .slice none 0 0] 34)).heap[w.heap.size]? = some (.cells #[.string { data := #[] }, .slice none 0 0, .int .i64 0, .int .i64 0, .int .i64 0, .int .i64 0, .int .i64 0, .int .i64 0, .int .i64 0, .int .i64 0, .int .i64 0, .int .i64 0, .int .i64 0, .int .i64 0, .int .i64 0, .int .i64 0, .int .i64 0, .int .i64 0, .int .i64 0, .string { data := #[] }, .slice none 0 0] 34 (0, 0)) := World.alloc_heap_new w _
  have hs0 : (w.alloc (.cells #[.string { data := #[] }, .slice none 0 0, .int .i64 0, .int .i64 0, .int .i64 0, .int .i64 0, .int .i64 0, .int .i64 0, .int .i64 0, .int .i64 0, .int .i64 0, .int .i64 0, .int .i64 0, .int .i64 0, .int .i64 0, .int .i64 0, .int .i64 0, .int .i64 0, .int .i64 0, .string { data := #[] }, .slice none 0 0] 34)).heap.size = w.heap.size + 1 := World.size_alloc _ _
  have hpl : ∀ W : World, Calls Try.prog 26 #[.int .i64 16] W fun e w' => e = .returned (.agg #[.int .i64 16, .int .i64 12, .int .i64 0, .int .i64 0, .int .i64 0, .int .i64 0, .int .i64 0, .int .i64 0, .int .i64 0, .int .i64 0, .int .i64 1, .int .i64 1, .int .i64 0, .int .i64 0, .int .i64 0, .int .i64 0, .int .i64 0]) ∧ Below W.heap.size W w' := plain_any 16
  generalize hw0 : w.alloc (.cells #[.string { data := #[] }, .slice none 0 0, .int .i64 0, .int .i64 0, .int .i64 0, .int .i64 0, .int .i64 0, .int .i64 0, .int .i64 0, .int .i64 0, .int .i64 0, .int .i64 0, .int .i64 0, .int .i64 0, .int .i64 0, .int .i64 0, .int .i64 0, .int .i64 0, .int .i64 0, .string { data := #[] }, .slice none 0 0] 34) = w0 at *
  have hB1 := hB.alloc hB.size (.cells #[.int .i64 2, .int .i64 0, .int .i64 0, .int .i64 1] 51)
  have hR1 : RecAt 4 spL (w0.alloc (.cells #[.int .i64 2, .int .i64 0, .int .i64 0, .int .i64 1] 51)) (.slice (some ⟨w0.heap.size, 0, none⟩) 1 1) [⟨2, 0, 0, 1⟩] := rec_new (k := 4) spL_len w0 51 [⟨2, 0, 0, 1⟩]
  have hz1 : (w0.alloc (.cells #[.int .i64 2, .int .i64 0, .int .i64 0, .int .i64 1] 51)).heap[w.heap.size]? = some (.cells #[.string { data := #[] }, .slice none 0 0, .int .i64 0, .int .i64 0, .int .i64 0, .int .i64 0, .int .i64 0, .int .i64 0, .int .i64 0, .int .i64 0, .int .i64 0, .int .i64 0, .int .i64 0, .int .i64 0, .int .i64 0, .int .i64 0, .int .i64 0, .int .i64 0, .int .i64 0, .string { data := #[] }, .slice none 0 0] 34 (0, 0)) := (Below.heap_alloc _ _ _ (by omega)).trans hz
  have hs1 : (w0.alloc (.cells #[.int .i64 2, .int .i64 0, .int .i64 0, .int .i64 1] 51)).heap.size = w.heap.size + 2 := by rw [World.size_alloc, hs0]
  rw [hs0] at hR1
  generalize hw1 : w0.alloc (.cells #[.int .i64 2, .int .i64 0, .int .i64 0, .int .i64 1] 51) = w1 at *
  go_enter Try.func25, Try.ntmps25
  go_wp2_with fail
  refine (hpl w1).mono ?_
  rintro e w2 ⟨rfl, hb2⟩
  have hz2 : w2.heap[w.heap.size]? = some (.cells #[.string { data := #[] }, .slice none 0 0, .int .i64 0, .int .i64 0, .int .i64 0, .int .i64 0, .int .i64 0, .int .i64 0, .int .i64 0, .int .i64 0, .int .i64 0, .int .i64 0, .int .i64 0, .int .i64 0, .int .i64 0, .int .i64 0, .int .i64 0, .int .i64 0, .int .i64 0, .string { data := #[] }, .slice none 0 0] 34 (0, 0)) := (hb2.block _ (by omega)).trans hz1
  have hB2 := hB1.trans (hb2.mono hB1.size)
  have hR2 := hR1.below hb2 (Nat.le_refl _)
  have hT3 := Turns.setRow (X := fun b => b = w.heap.size) w2 (r := w.heap.size) rfl (paC (exP (w.heap.size + 1)))
  have hB3 : Below w.heap.size w (w2.setRow w.heap.size (paC (exP (w.heap.size + 1)))) := hB2.trans (hT3.below hB2.size (fun b hb => by omega))
  have hA3 : PaAt (w2.setRow w.heap.size (paC (exP (w.heap.size + 1)))) (exP (w.heap.size + 1)) := by
    refine ⟨?_, ⟨⟨none, 0, rfl, .inl rfl⟩, fun a n c e => by cases e; exact Nat.le_refl _⟩, by show 1 ≤ _ ∧ 0 ≤ _; omega⟩
    obtain ⟨a, cap, e, h2⟩ := hR2.ex
    cases e
    refine ⟨⟨_, _, rfl, ?_⟩, hR2.le⟩
    rcases h2 with h2 | ⟨b, o, e, hb, hc⟩
    · cases h2
    · cases e
      exact .inr ⟨_, _, rfl, Nat.lt_of_lt_of_le hb hT3.size, fun i hi j u hu => cell_turns (hc i hi j u hu) hb hT3 (by omega)⟩
  go_wp2_with (refine wpList_store_row rfl 34 _ _ rfl w.heap.size (paC (exP (w.heap.size + 1))) rfl rfl 34 _ hz2 (info34 _) rfl (paC_one _ rfl rfl) ?_)
  refine bodyPost_ret (results_cell_row rfl _ _ w.heap.size 34 _ (0, 0) _ rfl (setRow_heap _ _ _ _ 34 _ hz2) Try.underlying34 rfl (info34 _)) rfl ⟨w.heap.size + 1, rfl, hA3, hB3⟩

end Go.Proofs.Ytidmmllbobimeaa
