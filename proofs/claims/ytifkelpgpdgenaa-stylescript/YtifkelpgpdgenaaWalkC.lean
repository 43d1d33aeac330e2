/-
  What is proved here: what Base and Get of style answer, and the document's own Base.
-/
import Derived.Test.YtifkelpgpdgenaaWalkB
import Derived.Test.YtifkelpgpdgenaaMem
namespace Go.Proofs.Ytifkelpgpdgenaa
open Go.RowKit Go.Shelf

set_option maxHeartbeats 400000 in
theorem base_any (w : World) : Calls Try.prog 13 #[] w fun e w' => e = .returned (prV baseL) ∧ Below w.heap.size w w' := by
  go_enter Try.func13, Try.ntmps13
  go_wp2
  refine bodyPost_ret (results_cell_row rfl _ _ w.heap.size 23 _ (0, 0) _ rfl (heap_new w _) Try.underlying23 rfl (by kernel_rfl)) rfl ?_
  exact ⟨rfl, (Below.refl _ w).alloc (Nat.le_refl _) _⟩
set_option maxHeartbeats 400000 in
theorem refBase_any (w : World) : Calls Try.prog 14 #[] w fun e w' => e = .returned (prV baseL) ∧ Below w.heap.size w w' := by
  go_enter Try.func14, Try.ntmps14
  go_wp2
  refine bodyPost_ret (results_cell_row rfl _ _ w.heap.size 23 _ (0, 0) _ rfl (heap_new w _) Try.underlying23 rfl (by kernel_rfl)) rfl ?_
  exact ⟨rfl, (Below.refl _ w).alloc (Nat.le_refl _) _⟩

set_option maxHeartbeats 1000000 in
theorem get_yes (l : List Int) (hl : l.length = 17) (n : Int) (hn : 1 ≤ n ∧ n ≤ 17) (w : World) : Calls Try.prog 15 #[prV l, .int .i64 n] w fun e w' => e = .returned (.tuple #[.int .i64 (l.getD (n.toNat - 1) 0), .int .i64 0]) ∧ Below w.heap.size w w' := by
  have hB := (Below.refl w.heap.size w).alloc (Nat.le_refl _) (Obj.cells (prC l) 23)
  have hP := PB.new w (T := 23) hl
  have hf := field_yes w.heap.size n hn
  have hc := hP.cell (k := n.toNat - 1) (by omega)
  generalize l.getD (n.toNat - 1) 0 = v at hc ⊢
  clear hP
  unfold prV
  go_enter Try.func15, Try.ntmps15
  go_wp2_with (go_at_call 34; refine (hf _).mono ?_; rintro e w' ⟨rfl, hww⟩; subst w')
  go_ret2
  exact ⟨rfl, hB⟩
set_option maxHeartbeats 1000000 in
theorem get_no (l : List Int) (n : Int) (hn : ¬ (1 ≤ n ∧ n ≤ 17)) (w : World) : Calls Try.prog 15 #[prV l, .int .i64 n] w fun e w' => e = .returned (.tuple #[.int .i64 0, .int .i64 2]) ∧ Below w.heap.size w w' := by
  have hB := (Below.refl w.heap.size w).alloc (Nat.le_refl _) (Obj.cells (prC l) 23)
  have hf := field_no w.heap.size n hn
  clear hn
  unfold prV
  go_enter Try.func15, Try.ntmps15
  go_wp2_with (go_at_call 34; refine (hf _).mono ?_; rintro e w' ⟨rfl, hww⟩; subst w')
  go_ret2
  exact ⟨rfl, hB⟩
end Go.Proofs.Ytifkelpgpdgenaa
