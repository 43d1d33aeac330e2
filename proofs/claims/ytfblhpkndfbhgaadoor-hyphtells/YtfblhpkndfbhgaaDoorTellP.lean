/-
  What is proved here: what the document's Plain answers.
-/
import Derived.Test.YtfblhpkndfbhgaaDoorRefQ
namespace Go.Proofs.YtfblhpkndfbhgaaDoor
open Go.RowKit Go.Shelf

theorem newI_plain : newI PP PX = 0 := by
  unfold newI
  rw [if_neg (by decide +kernel), good_P, good_X, fresh_X]; rfl
set_option maxRecDepth 100000 in
set_option maxHeartbeats 4000000 in
theorem rplain_any (w : World) : Calls Tryd.prog 18 #[] w fun e w' => ∃ m, e = .returned (.pointer (some ⟨m, 0, none⟩)) ∧ Below w.heap.size w w' ∧ ∃ base, RH w' base m (tx PP) (tx PX) := by
  have hN : Hid (∀ W v1 v2, Below w.heap.size w W → TxAt W v1 (tx PP) → TxAt W v2 (tx PX) → Calls Tryd.prog 11 #[v1, v2] W fun e w' => ∃ m, e = .returned (.tuple #[.pointer (some ⟨m, 0, none⟩), .int .i64 0]) ∧ Below w.heap.size w w' ∧ ∃ base, RH w' base m (tx PP) (tx PX)) := fun W v1 v2 hb h1 h2 => by
    refine (rnew_any v1 v2 (tx PP) (tx PX) W h1 h2 (by decide +kernel) (by decide +kernel) (by
      intro s hs
      obtain ⟨x, hx, rfl⟩ := List.mem_map.1 hs
      exact size_X x hx)).mono ?_
    rintro e w' ⟨hb', h⟩
    rw [tx_bs, tx_bs, newI_plain] at h
    rcases h with ⟨h, -⟩ | ⟨-, -, m, rfl, hR⟩
    · exact absurd rfl h
    · exact ⟨m, rfl, hb.trans (hb'.mono hb.size), _, hR⟩
  have hb2 := fun A B => below_one (below_one (Below.refl w.heap.size w) A) B
  go_enter Tryd.func18, Tryd.ntmps18
  go_wp2_with (go_at_call 11; refine (hN.out _ _ _ (hb2 _ _) (TxAt.next (tx_lit w (tx PP) _ 30 (by first | rfl | kernel_rfl) (by first | rfl | kernel_rfl) rfl) _) (tx_lit _ (tx PX) _ 3 (by first | rfl | kernel_rfl) (by first | rfl | kernel_rfl) (by simp))).mono ?_; rintro e w' ⟨m, rfl, hbw, hR⟩)
  go_ret
  exact ⟨m, rfl, hbw, hR⟩
end Go.Proofs.YtfblhpkndfbhgaaDoor
