/-
  What is proved here: what awake of the statements answers.
-/
import Derived.Test.YtifkelpgpdgenabAwake
namespace Go.Proofs.Ytifkelpgpdgenab
open Go.RowKit Go.Shelf

theorem resPost.ok {w w' : World} {S : Sh} {name : Str} {own : List (Int × Int)} {e : Ending} {m : List Int} (h : resPost w S name own e w') (he : resE S name own = 0) (hm : Makes S baseL name m) :
    e = .returned (.tuple #[.agg (prC (applyL m own)), .int .i64 0]) ∧ (applyL m own).length = 17 ∧ Below w.heap.size w w' := by
  obtain ⟨hb, q, h1, hl, _, h2⟩ := h
  obtain ⟨m', hm', rfl⟩ := h2 he
  obtain rfl := hm.uniq hm'
  rw [he] at h1
  exact ⟨h1, hl, hb⟩
theorem resE_ok {S : Sh} {name : Str} {own : List (Int × Int)} (h : name = e0 ∨ (S name).isSome = true) (ho : refuseL own = 0) : resE S name own = 0 := by
  unfold resE
  rw [if_neg, ho]
  rintro ⟨h1, h2⟩
  rcases h with h | h
  · exact h1 h
  · rw [h2] at h; cases h
theorem S2_b : S2 sb = some (sa, Lb) := upd_same _ _ _
def q1 : List Int := [20, 12, 0, 0, 5, 0, 0, 0, 0, 0, 1, 1, 0, 0, 0, 0, 0]
def q2 : List Int := [14, 12, 0, 0, 5, 0, 0, 0, 0, 0, 1, 1, 0, 0, 0, 0, 0]
theorem q1_is : applyL (applyL (applyL baseL La) Lb) [(1, 20)] = q1 := by decide
theorem q2_is : applyL (applyL (applyL baseL La) Lb) [] = q2 := by decide
theorem sets_nil (w : World) : SetsAt w (.slice none 0 0) [] := ⟨⟨none, 0, rfl, .inl rfl⟩, by simp⟩

set_option maxRecDepth 100000 in
set_option maxHeartbeats 2000000 in
theorem awake_any (w : World) : Calls Try.prog 13 #[] w fun e w' => e = .returned (.bool true) ∧ Below w.heap.size w w' := by
  go_enter Try.func13, Try.ntmps13
  go_wp2_with fail
  refine (two_any w).mono ?_
  rintro e w1 ⟨t, b, rfl, ht, hb, h1, f1, B1⟩
  go_wp2_with fail
  refine (set_any 1 20 w1).mono ?_
  rintro e w2 ⟨rfl, r2, b2⟩
  have h2 := h1.below b2
  have B2 := B1.trans (b2.mono B1.size)
  have s2 : SetsAt w2 _ [(1, 20)] := sets_of_row r2 (by decide)
  clear h1 r2
  go_wp2_with fail
  refine (resolve_any t b 2 S2 f1 sb (by decide) _ [(1, 20)] w2 h2 s2).mono ?_
  intro e w3 p3
  obtain ⟨rfl, _, b3⟩ := p3.ok (resE_ok (.inr (by rw [S2_b]; rfl)) (by decide)) (mk_b baseL)
  rw [q1_is]
  have h3 := h2.below b3
  have B3 := B2.trans (b3.mono B2.size)
  obtain ⟨Z3, c3⟩ := made23 w3 (l := q1) rfl
  have h4 := h3.below c3
  have B4 := B3.trans (c3.mono B3.size)
  obtain ⟨w4, hw4⟩ : ∃ w4, (w3.alloc (.cells #[Value.int IntKind.i64 0, Value.int IntKind.i64 0, Value.int IntKind.i64 0, Value.int IntKind.i64 0, Value.int IntKind.i64 0, Value.int IntKind.i64 0, Value.int IntKind.i64 0, Value.int IntKind.i64 0, Value.int IntKind.i64 0, Value.int IntKind.i64 0, Value.int IntKind.i64 0, Value.int IntKind.i64 0, Value.int IntKind.i64 0, Value.int IntKind.i64 0, Value.int IntKind.i64 0, Value.int IntKind.i64 0, Value.int IntKind.i64 0] 32)).setRow w3.heap.size (prC q1) = w4 := ⟨_, rfl⟩
  rw [hw4] at Z3 c3 B4 h4
  clear h2 h3 s2 p3
  go_wp2_with (refine wpList_store_row rfl 32 _ _ rfl w3.heap.size (prC q1) rfl rfl 32 _ (heap_new w3 _) (info23l rfl) rfl (prC_one _) ?_; rw [hw4])
  refine (resolve_any t b 2 S2 f1 sb (by decide) _ [] w4 h4 (sets_nil w4)).mono ?_
  intro e w5 p5
  obtain ⟨rfl, _, b5⟩ := p5.ok (resE_ok (.inr (by rw [S2_b]; rfl)) (by decide)) (mk_b baseL)
  rw [q2_is]
  have Z5 := Z3.below b5 Z3.lt
  have B5 := B4.trans (b5.mono B4.size)
  obtain ⟨Y5, c5⟩ := made23 w5 (l := q2) rfl
  have Z6 := Z5.below c5 Z5.lt
  have B6 := B5.trans (c5.mono B5.size)
  obtain ⟨w6, hw6⟩ : ∃ w6, (w5.alloc (.cells #[Value.int IntKind.i64 0, Value.int IntKind.i64 0, Value.int IntKind.i64 0, Value.int IntKind.i64 0, Value.int IntKind.i64 0, Value.int IntKind.i64 0, Value.int IntKind.i64 0, Value.int IntKind.i64 0, Value.int IntKind.i64 0, Value.int IntKind.i64 0, Value.int IntKind.i64 0, Value.int IntKind.i64 0, Value.int IntKind.i64 0, Value.int IntKind.i64 0, Value.int IntKind.i64 0, Value.int IntKind.i64 0, Value.int IntKind.i64 0] 32)).setRow w5.heap.size (prC q2) = w6 := ⟨_, rfl⟩
  rw [hw6] at Y5 c5 B6 Z6
  have d0 : w6.cell? ⟨w3.heap.size, 0, none⟩ = some (.int .i64 20) := Z6.cell (k := 0) (by decide)
  have d4 : w6.cell? ⟨w3.heap.size, 4, none⟩ = some (.int .i64 5) := Z6.cell (k := 4) (by decide)
  have e0 : w6.cell? ⟨w5.heap.size, 0, none⟩ = some (.int .i64 14) := Y5.cell (k := 0) (by decide)
  have e1 : w6.cell? ⟨w5.heap.size, 1, none⟩ = some (.int .i64 12) := Y5.cell (k := 1) (by decide)
  clear h4 Z3 Z5 p5 hw4
  go_wp2_with (refine wpList_store_row rfl 32 _ _ rfl w5.heap.size (prC q2) rfl rfl 32 _ (heap_new w5 _) (info23l rfl) rfl (prC_one _) ?_; rw [hw6])
  go_ret
  exact ⟨rfl, B6⟩
end Go.Proofs.Ytifkelpgpdgenab
