/-
  What is proved here: what makes and Resolve of style answer.
-/
import Derived.Test.YtifkelpgpdgenaaXMakes
import Derived.Test.YtifkelpgpdgenaaPropsWalk
namespace Go.Proofs.Ytifkelpgpdgenaa
open Go.RowKit Go.Shelf

variable {X : Nat → Prop}

/-- Properties and room for properties, made one behind the other. -/
theorem two_made (w : World) {l : List Int} (hl : l.length = 17) : Below w.heap.size w ((w.alloc (.cells (prC l) 23)).alloc (.cells #[Value.int IntKind.i64 0, Value.int IntKind.i64 0, Value.int IntKind.i64 0, Value.int IntKind.i64 0, Value.int IntKind.i64 0, Value.int IntKind.i64 0, Value.int IntKind.i64 0, Value.int IntKind.i64 0, Value.int IntKind.i64 0, Value.int IntKind.i64 0, Value.int IntKind.i64 0, Value.int IntKind.i64 0, Value.int IntKind.i64 0, Value.int IntKind.i64 0, Value.int IntKind.i64 0, Value.int IntKind.i64 0, Value.int IntKind.i64 0] 23)) ∧ PB ((w.alloc (.cells (prC l) 23)).alloc (.cells #[Value.int IntKind.i64 0, Value.int IntKind.i64 0, Value.int IntKind.i64 0, Value.int IntKind.i64 0, Value.int IntKind.i64 0, Value.int IntKind.i64 0, Value.int IntKind.i64 0, Value.int IntKind.i64 0, Value.int IntKind.i64 0, Value.int IntKind.i64 0, Value.int IntKind.i64 0, Value.int IntKind.i64 0, Value.int IntKind.i64 0, Value.int IntKind.i64 0, Value.int IntKind.i64 0, Value.int IntKind.i64 0, Value.int IntKind.i64 0] 23)) w.heap.size 23 l ∧ PB ((w.alloc (.cells (prC l) 23)).alloc (.cells #[Value.int IntKind.i64 0, Value.int IntKind.i64 0, Value.int IntKind.i64 0, Value.int IntKind.i64 0, Value.int IntKind.i64 0, Value.int IntKind.i64 0, Value.int IntKind.i64 0, Value.int IntKind.i64 0, Value.int IntKind.i64 0, Value.int IntKind.i64 0, Value.int IntKind.i64 0, Value.int IntKind.i64 0, Value.int IntKind.i64 0, Value.int IntKind.i64 0, Value.int IntKind.i64 0, Value.int IntKind.i64 0, Value.int IntKind.i64 0] 23)) (w.heap.size + 1) 23 zeroL ∧ ((w.alloc (.cells (prC l) 23)).alloc (.cells #[Value.int IntKind.i64 0, Value.int IntKind.i64 0, Value.int IntKind.i64 0, Value.int IntKind.i64 0, Value.int IntKind.i64 0, Value.int IntKind.i64 0, Value.int IntKind.i64 0, Value.int IntKind.i64 0, Value.int IntKind.i64 0, Value.int IntKind.i64 0, Value.int IntKind.i64 0, Value.int IntKind.i64 0, Value.int IntKind.i64 0, Value.int IntKind.i64 0, Value.int IntKind.i64 0, Value.int IntKind.i64 0, Value.int IntKind.i64 0] 23)).heap.size = w.heap.size + 2 := by
  refine ⟨((Below.refl _ w).alloc (Nat.le_refl _) _).alloc (by simp) _, (PB.new w hl).below ((Below.refl _ _).alloc (Nat.le_refl _) _) (by simp), ⟨rfl, heap_alloc2_new w _ _⟩, by simp⟩

set_option maxRecDepth 100000 in
set_option maxHeartbeats 4000000 in
theorem makes_top (t : Nat) (S : Sh) (l : List Int) (hl : l.length = 17) (w : World) :
    Calls Try.prog 50 #[.pointer (some ⟨t, 0, none⟩), .string e0, .agg (prC l)] w fun e w' => ∃ m, Makes S l e0 m ∧ e = .returned (.agg (prC m)) ∧ Below w.heap.size w w' := by
  obtain ⟨hB, hP, hR, hs⟩ := two_made w hl
  generalize hw0 : (w.alloc (.cells (prC l) 23)).alloc (.cells #[Value.int IntKind.i64 0, Value.int IntKind.i64 0, Value.int IntKind.i64 0, Value.int IntKind.i64 0, Value.int IntKind.i64 0, Value.int IntKind.i64 0, Value.int IntKind.i64 0, Value.int IntKind.i64 0, Value.int IntKind.i64 0, Value.int IntKind.i64 0, Value.int IntKind.i64 0, Value.int IntKind.i64 0, Value.int IntKind.i64 0, Value.int IntKind.i64 0, Value.int IntKind.i64 0, Value.int IntKind.i64 0, Value.int IntKind.i64 0] 23) = w0 at hB hP hR hs
  have hE : Hid _ := And.intro (hR.setRow hl) (below_setRow hB (Nat.le_succ w.heap.size) (prC l))
  unfold e0
  go_enter Try.func50, Try.ntmps50
  go_wp2_with (first
    | refine wpList_load_row rfl 23 _ rfl w.heap.size rfl 23 _ (0, 0) _ (by first | exact hP.row | (rw [hw0]; exact hP.row)) Try.underlying23 rfl (info23l hl) ?_
    | (refine wpList_store_row rfl 23 _ _ rfl (w.heap.size + 1) (prC l) rfl rfl 23 _ (by first | exact hR.row | (rw [hw0]; exact hR.row)) (info23l hl) (by rw [prC_size, prC_size, hl]; rfl) (prC_one _) ?_; try rw [hw0]))
  refine bodyPost_ret (results_cell_row rfl _ _ (w.heap.size + 1) 23 _ (0, 0) _ rfl hE.out.1.row Try.underlying23 rfl (info23l hl)) rfl ?_
  exact ⟨l, Makes.top, rfl, hE.out.2⟩

set_option maxRecDepth 100000 in
set_option maxHeartbeats 4000000 in
theorem makes_style (t b n : Nat) (S : Sh) (hWF : WF S) (l : List Int) (hl : l.length = 17) (s p : Str) (L : List (Int × Int)) (hs : S s = some (p, L)) (hse : s ≠ e0) (w : World) (h : SheetAt X w t b n S)
    (hmk : ∀ W', SheetAt X W' t b n S → Calls Try.prog 50 #[.pointer (some ⟨t, 0, none⟩), .string p, .agg (prC l)] W' fun e w' => ∃ m, Makes S l p m ∧ e = .returned (.agg (prC m)) ∧ Below W'.heap.size W' w') :
    Calls Try.prog 50 #[.pointer (some ⟨t, 0, none⟩), .string s, .agg (prC l)] w fun e w' => ∃ m, Makes S l s m ∧ e = .returned (.agg (prC m)) ∧ Below w.heap.size w w' := by
  obtain ⟨hB, hP, hR, hsz⟩ := two_made w hl
  generalize hw0 : (w.alloc (.cells (prC l) 23)).alloc (.cells #[Value.int IntKind.i64 0, Value.int IntKind.i64 0, Value.int IntKind.i64 0, Value.int IntKind.i64 0, Value.int IntKind.i64 0, Value.int IntKind.i64 0, Value.int IntKind.i64 0, Value.int IntKind.i64 0, Value.int IntKind.i64 0, Value.int IntKind.i64 0, Value.int IntKind.i64 0, Value.int IntKind.i64 0, Value.int IntKind.i64 0, Value.int IntKind.i64 0, Value.int IntKind.i64 0, Value.int IntKind.i64 0, Value.int IntKind.i64 0] 23) = w0 at hB hP hR hsz
  have hE := isEmpty_no (size_pos hse)
  have h0 := h.below hB
  have hs16 := (nameB_pos (hWF.name _ _ hs)).2
  obtain ⟨D, h1, _, h3⟩ := h0.own
  obtain ⟨a, cap, hl1, hL⟩ := look_false h1 (s := s) (by unfold maxLen; omega) (h3 s)
  rw [hs] at hl1 hL
  simp only [Option.map_some, Option.getD_some] at hl1 hL
  unfold styV at hl1
  obtain ⟨c0, c1⟩ := h0.cells
  have hA := (Below.refl w0.heap.size w0).alloc (Nat.le_refl _) (Obj.cells #[.string p, .slice a L.length cap] 82)
  have hx := heap_new w0 (.cells #[.string p, .slice a L.length cap] 82)
  rw [hsz] at hx
  have hlp := refuseL_allP (hWF.fits _ _ _ hs)
  clear h1 h3
  go_enter Try.func50, Try.ntmps50
  go_wp2_with fail
  try rw [hw0]
  go_wp2_with fail

  refine makes_region _ (fun _ _ _ _ _ h => h) _ _ t S l hl p L hlp a cap w.heap.size (w.heap.size + 1) (w.heap.size + 2) w.heap.size w (w0.alloc (.cells #[.string p, .slice a L.length cap] 82)) (Nat.le_refl _) (fun W' hW' => hmk W' ((h0.below hA).below hW')) (hL.below hA) (hR.below hA hR.lt) (by simp; omega) (by simp; omega) (by simp; omega) (by omega) (by omega) (by omega) ⟨hP.below hA hP.lt, by rw [Lib.cell_of_heap hx]; rfl, by rw [Lib.cell_of_heap hx]; rfl, hB.trans (hA.mono hB.size)⟩ ?_
  intro w' m hm hPm hBm
  unfold fr50
  go_wp2_with fail
  refine bodyPost_ret (results_cell_row rfl _ _ (w.heap.size + 1) 23 _ (0, 0) _ rfl hPm.row Try.underlying23 rfl (info23l hPm.len)) rfl ?_
  exact ⟨_, Makes.style hs hse hm, rfl, hBm⟩

theorem makes_any (t b n : Nat) (S : Sh) (hWF : WF S) (l : List Int) (hl : l.length = 17) (s : Str) (hs : s = e0 ∨ (S s).isSome = true) (w : World) (h : SheetAt X w t b n S) :
    Calls Try.prog 50 #[.pointer (some ⟨t, 0, none⟩), .string s, .agg (prC l)] w fun e w' => ∃ m, Makes S l s m ∧ e = .returned (.agg (prC m)) ∧ Below w.heap.size w w' := by
  obtain ⟨r, hr⟩ := hWF.rank
  have key : ∀ (k : Nat) (s : Str), r s < k → (s = e0 ∨ (S s).isSome = true) → ∀ w, SheetAt X w t b n S → Calls Try.prog 50 #[.pointer (some ⟨t, 0, none⟩), .string s, .agg (prC l)] w fun e w' => ∃ m, Makes S l s m ∧ e = .returned (.agg (prC m)) ∧ Below w.heap.size w w' := by
    intro k
    induction k with
    | zero => intro s hk; omega
    | succ k ih =>
      intro s hk hs w h
      by_cases hse : s = e0
      · rw [hse]; exact makes_top t S l hl w
      · cases hx : S s with
        | none => rcases hs with hs | hs
                  · exact absurd hs hse
                  · rw [hx] at hs; cases hs
        | some x =>
          obtain ⟨p, L⟩ := x
          refine makes_style t b n S hWF l hl s p L hx hse w h fun W' hW' => ?_
          by_cases hp : p = e0
          · rw [hp]; exact makes_top t S l hl W'
          · obtain ⟨y, hy⟩ := hWF.up _ _ _ hx hp
            exact ih p (by have := hr _ _ _ hx hp; omega) (.inr (by rw [hy]; rfl)) W' hW'
  exact key (r s + 1) s (by omega) hs w h
end Go.Proofs.Ytifkelpgpdgenaa
