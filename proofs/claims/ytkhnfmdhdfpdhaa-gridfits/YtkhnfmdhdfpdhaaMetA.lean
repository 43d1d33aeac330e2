/-
  What is proved here: what Em of metric answers of any byte, and the document's Em.
-/
import Derived.Test.YtkhnfmdhdfpdhaaMath
import Derived.WalkKit
import Derived.WalkSpells
import Derived.LoopN
namespace Go.Proofs.Ytkhnfmdhdfpdhaa
open Go.RowKit Go.Shelf

/-- The em of a byte, in eighths. -/
def emI (x : Int) : Int :=
  if x = 105 ∨ x = 106 ∨ x = 108 ∨ x = 39 ∨ x = 46 ∨ x = 44 ∨ x = 58 ∨ x = 59 ∨ x = 33 ∨ x = 124 then 2
  else if x = 102 ∨ x = 116 ∨ x = 114 ∨ x = 40 ∨ x = 41 ∨ x = 91 ∨ x = 93 ∨ x = 123 ∨ x = 125 ∨ x = 45 ∨ x = 34 ∨ x = 94 ∨ x = 95 ∨ x = 126 ∨ x = 96 ∨ x = 32 ∨ x = 73 then 3
  else if x = 109 ∨ x = 119 then 7 else if x = 77 ∨ x = 87 then 8 else if (97 ≤ x ∧ x ≤ 122) ∨ (48 ≤ x ∧ x ≤ 57) then 5 else if 32 < x ∧ x ≤ 126 then 6 else 0
theorem emI_rng (x : Int) : 0 ≤ emI x ∧ emI x ≤ 8 := by
  unfold emI
  repeat' split
  all_goals omega
theorem em_2 {x : Int} (h : x = 105 ∨ x = 106 ∨ x = 108 ∨ x = 39 ∨ x = 46 ∨ x = 44 ∨ x = 58 ∨ x = 59 ∨ x = 33 ∨ x = 124) : emI x = 2 := if_pos h

set_option maxRecDepth 100000 in
set_option maxHeartbeats 4000000 in
theorem em_any (x : Int) (w : World) : Calls Try.prog 92 #[.int .u8 x] w fun e w' => e = .returned (.int .i64 (emI x)) ∧ w' = w := by
  go_enter Try.func92, Try.ntmps92
  go_wp2
  all_goals go_ret
  all_goals refine ⟨?_, rfl⟩
  all_goals congr 2
  all_goals try simp only [beq_iff_eq, beq_eq_false_iff_ne, ne_eq] at *
  all_goals first | (subst_vars; rfl) | (unfold emI; repeat (first | rw [if_neg (by omega)] | rw [if_pos (by omega)]))
  all_goals first | rfl | (exfalso; omega)
end Go.Proofs.Ytkhnfmdhdfpdhaa
