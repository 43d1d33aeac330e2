/-
  What is proved here: properties are the same as themselves.
-/
import Derived.Test.YtifkelpgpdgenaaWalkH
namespace Go.Proofs.Ytifkelpgpdgenaa
open Go.RowKit Go.Shelf

set_option maxRecDepth 100000 in
set_option maxHeartbeats 4000000 in
theorem eqIn_x (x0 x1 x2 x3 x4 x5 x6 x7 x8 x9 x10 x11 x12 x13 x14 x15 x16 : Int) (w : World) : (Op.equalIn 10000 23 (.agg #[.int .i64 x0, .int .i64 x1, .int .i64 x2, .int .i64 x3, .int .i64 x4, .int .i64 x5, .int .i64 x6, .int .i64 x7, .int .i64 x8, .int .i64 x9, .int .i64 x10, .int .i64 x11, .int .i64 x12, .int .i64 x13, .int .i64 x14, .int .i64 x15, .int .i64 x16]) (.agg #[.int .i64 x0, .int .i64 x1, .int .i64 x2, .int .i64 x3, .int .i64 x4, .int .i64 x5, .int .i64 x6, .int .i64 x7, .int .i64 x8, .int .i64 x9, .int .i64 x10, .int .i64 x11, .int .i64 x12, .int .i64 x13, .int .i64 x14, .int .i64 x15, .int .i64 x16])).run Try.prog w = .ok true w := by
  go_simp
theorem eqIn_same (l : List Int) (hl : l.length = 17) (w : World) : (Op.equalIn 10000 23 (prV l) (prV l)).run Try.prog w = .ok true w := by
  obtain ⟨x0, x1, x2, x3, x4, x5, x6, x7, x8, x9, x10, x11, x12, x13, x14, x15, x16, rfl⟩ := all17 hl
  exact eqIn_x x0 x1 x2 x3 x4 x5 x6 x7 x8 x9 x10 x11 x12 x13 x14 x15 x16 w
theorem eql_same (l : List Int) (hl : l.length = 17) (w : World) : (binOp .eql 23 (prV l) (prV l)).run Try.prog w = .ok (.bool true) w := by
  unfold prV
  rw [run_eql_struct]
  have := eqIn_same l hl w
  unfold prV at this
  rw [this]
  rfl
theorem neq_same (l : List Int) (hl : l.length = 17) (w : World) : (binOp .neq 23 (prV l) (prV l)).run Try.prog w = .ok (.bool false) w := by
  unfold prV
  rw [run_neq_struct]
  have := eqIn_same l hl w
  unfold prV at this
  rw [this]
  rfl
theorem guard23 : Try.prog.eqGuardType Try.prog.depth 23 = false := by kernel_rfl
end Go.Proofs.Ytifkelpgpdgenaa
