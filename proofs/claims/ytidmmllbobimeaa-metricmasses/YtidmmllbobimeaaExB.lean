/-
  What is proved here: what Plain answers.
-/
import Derived.Test.YtidmmllbobimeaaMassW
namespace Go.Proofs.Ytidmmllbobimeaa
open Go.RowKit Go.Shelf

theorem prL_size (p : Pr) : (prL p).toArray.size = 17 := rfl
theorem prL_one (p : Pr) : (prL p).toArray.all (·.oneCell') = true := by simp [prL, Value.oneCell']
theorem paC_one (a : Pa) (h1 : a.sv.oneCell' = true) (h2 : a.mv.oneCell' = true) : (paC a).all (·.oneCell') = true := by simp [paC, Value.oneCell']; exact ⟨h1, h2⟩
def plainP (s : Int) : Pr := ⟨s, 12, 0, 0, 0, 0, 0, 0, 0, 0, 1, 1, 0, 0, 0, 0, 0⟩

set_option maxRecDepth 100000 in
set_option maxHeartbeats 2000000 in
theorem plain_any (s : Int) (w : World) : Calls Try.prog 26 #[.int .i64 s] w fun e w' => e = .returned (.agg (prL (plainP s)).toArray) ∧ Below w.heap.size w w' := by
  have hB := (Below.refl w.heap.size w).alloc (Nat.le_refl _) (Obj.cells #[.int .i64 0, .int .i64 0, .int .i64 0, .int .i64 0, .int .i64 0, .int .i64 0, .int .i64 0, .int .i64 0, .int .i64 0, .int .i64 0, .int .i64 0, .int .i64 0, .int .i64 0, .int .i64 0, .int .i64 0, .int .i64 0, .int .i64 0] 31)
  have hz : (w.alloc (.cells #[.int .i64 0, .int .i64 0, .int .i64 0, .int .i64 0, .int .i64 0, .int .i64 0, .int .i64 0, .int .i64 0, .int .i64 0, .int .i64 0, .int .i64 0, .int .i64 0, .int .i64 0, .int .i64 0, .int .i64 0, .int .i64 0, .int .i64 0] 31)).heap[w.heap.size]? = some (.cells #[.int .i64 0, .int .i64 0, .int .i64 0, .int .i64 0, .int .i64 0, .int .i64 0, .int .i64 0, .int .i64 0, .int .i64 0, .int .i64 0, .int .i64 0, .int .i64 0, .int .i64 0, .int .i64 0, .int .i64 0, .int .i64 0, .int .i64 0] 31 (0, 0)) := World.alloc_heap_new w _
  go_enter Try.func26, Try.ntmps26
  go_wp2_with (refine wpList_store_row rfl 31 _ _ rfl w.heap.size (prL (plainP s)).toArray rfl rfl 31 _ hz (info31 _) rfl (prL_one _) ?_)
  refine bodyPost_ret (results_cell_row rfl _ _ w.heap.size 31 _ (0, 0) _ rfl (setRow_heap _ _ _ _ 31 _ hz) Try.underlying31 rfl (info31 (plainP s))) rfl ⟨rfl, ?_⟩
  exact hB.trans ((Turns.setRow (X := fun b => b = w.heap.size) (w.alloc (.cells #[.int .i64 0, .int .i64 0, .int .i64 0, .int .i64 0, .int .i64 0, .int .i64 0, .int .i64 0, .int .i64 0, .int .i64 0, .int .i64 0, .int .i64 0, .int .i64 0, .int .i64 0, .int .i64 0, .int .i64 0, .int .i64 0, .int .i64 0] 31)) rfl _).below (by simp) (fun b hb => by omega))

end Go.Proofs.Ytidmmllbobimeaa
