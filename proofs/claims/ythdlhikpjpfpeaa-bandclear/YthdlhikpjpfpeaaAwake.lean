/-
  What is proved here: awake: the examples are answered as the document says.
-/
import Derived.Test.YthdlhikpjpfpeaaEq
namespace Go.Proofs.Ythdlhikpjpfpeaa
open Go.RowKit Go.Shelf

theorem ex_slots : slsE 100 [exB] 10 12 2 = 0 ∧ slsL 100 [exB] 10 12 2 = [⟨30, 70⟩, ⟨0, 100⟩] := by constructor <;> kernel_rfl
theorem lit_two (w : World) (x y : Sl) : RecAt 2 slL (w.alloc (.cells #[.int .i64 x.x, .int .i64 x.w, .int .i64 y.x, .int .i64 y.w] 43)) (.slice (some ⟨w.heap.size, 0, none⟩) 2 2) [x, y] := by
  have := rec_new slL_len w 43 [x, y]
  simpa [slL] using this
set_option maxRecDepth 100000 in
set_option maxHeartbeats 2000000 in
theorem awake_any (w : World) : Calls Try.prog 17 #[] w fun e w' => e = .returned (.bool true) ∧ Below w.heap.size w w' := by
  have he := example_any w
  go_enter Try.func17, Try.ntmps17
  go_wp2_with fail
  refine he.mono ?_
  rintro e w1 ⟨⟨v, rfl, hr⟩, b1⟩
  have hS := rec_one hr
  have hs := slots_any v [exB] 100 10 12 2 (by decide) w1 hS
  clear he hr
  go_wp2_with fail
  refine hs.mono ?_
  rintro e w2 ⟨b2, u, rfl, hu⟩
  rw [ex_slots.1]
  rw [ex_slots.2] at hu
  have B2 := b1.trans (b2.mono b1.size)
  have hL := lit_two w2 ⟨30, 70⟩ ⟨0, 100⟩
  have B3 := B2.alloc B2.size (.cells #[.int .i64 30, .int .i64 70, .int .i64 0, .int .i64 100] 43)
  have hU := hu.below ((Below.refl w2.heap.size w2).alloc (Nat.le_refl _) (.cells #[.int .i64 30, .int .i64 70, .int .i64 0, .int .i64 100] 43)) (Nat.le_refl _)
  have hq := slots_yes _ _ _ (by decide) _ hU hL
  clear hs hu hL hU
  go_wp2_with fail
  refine hq.mono ?_
  rintro e w3 ⟨rfl, b3⟩
  have B4 := B3.trans (b3.mono B3.size)
  go_wp2_with fail
  go_ret
  exact ⟨rfl, B4⟩

end Go.Proofs.Ythdlhikpjpfpeaa
