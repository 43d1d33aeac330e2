/-
  What is proved here: the document's Em of any byte.
-/
import Derived.Test.YtkhnfmdhdfpdhaaMetB
namespace Go.Proofs.Ytkhnfmdhdfpdhaa
open Go.RowKit Go.Shelf

theorem in_a_fin : ∀ n : Fin 256, inB ((n : Nat) : Int) { data := #[105, 106, 108, 39, 46, 44, 58, 59, 33, 124] } = decide (((n : Nat) : Int) = 105 ∨ ((n : Nat) : Int) = 106 ∨ ((n : Nat) : Int) = 108 ∨ ((n : Nat) : Int) = 39 ∨ ((n : Nat) : Int) = 46 ∨ ((n : Nat) : Int) = 44 ∨ ((n : Nat) : Int) = 58 ∨ ((n : Nat) : Int) = 59 ∨ ((n : Nat) : Int) = 33 ∨ ((n : Nat) : Int) = 124) := by decide +kernel
theorem in_a (x : Int) (h : 0 ≤ x ∧ x < 256) : inB x { data := #[105, 106, 108, 39, 46, 44, 58, 59, 33, 124] } = decide (x = 105 ∨ x = 106 ∨ x = 108 ∨ x = 39 ∨ x = 46 ∨ x = 44 ∨ x = 58 ∨ x = 59 ∨ x = 33 ∨ x = 124) := by
  have := in_a_fin ⟨x.toNat, by omega⟩
  have e : ((x.toNat : Nat) : Int) = x := by omega
  simp only [e] at this
  exact this
theorem in_b_fin : ∀ n : Fin 256, inB ((n : Nat) : Int) { data := #[102, 116, 114, 40, 41, 91, 93, 123, 125, 45, 34, 94, 95, 126, 32, 73] } = decide (((n : Nat) : Int) = 102 ∨ ((n : Nat) : Int) = 116 ∨ ((n : Nat) : Int) = 114 ∨ ((n : Nat) : Int) = 40 ∨ ((n : Nat) : Int) = 41 ∨ ((n : Nat) : Int) = 91 ∨ ((n : Nat) : Int) = 93 ∨ ((n : Nat) : Int) = 123 ∨ ((n : Nat) : Int) = 125 ∨ ((n : Nat) : Int) = 45 ∨ ((n : Nat) : Int) = 34 ∨ ((n : Nat) : Int) = 94 ∨ ((n : Nat) : Int) = 95 ∨ ((n : Nat) : Int) = 126 ∨ ((n : Nat) : Int) = 32 ∨ ((n : Nat) : Int) = 73) := by decide +kernel
theorem in_b (x : Int) (h : 0 ≤ x ∧ x < 256) : inB x { data := #[102, 116, 114, 40, 41, 91, 93, 123, 125, 45, 34, 94, 95, 126, 32, 73] } = decide (x = 102 ∨ x = 116 ∨ x = 114 ∨ x = 40 ∨ x = 41 ∨ x = 91 ∨ x = 93 ∨ x = 123 ∨ x = 125 ∨ x = 45 ∨ x = 34 ∨ x = 94 ∨ x = 95 ∨ x = 126 ∨ x = 32 ∨ x = 73) := by
  have := in_b_fin ⟨x.toNat, by omega⟩
  have e : ((x.toNat : Nat) : Int) = x := by omega
  simp only [e] at this
  exact this

set_option maxRecDepth 100000 in
set_option maxHeartbeats 1000000 in
theorem rem_any (x : Int) (h : 0 ≤ x ∧ x < 256) (w : World) : Calls Try.prog 82 #[.int .u8 x] w fun e w' => e = .returned (.int .i64 (emI x)) ∧ w' = w := by
  have q1 := in_a x h
  have q2 := in_b x h
  by_cases b1 : x = 105 ∨ x = 106 ∨ x = 108 ∨ x = 39 ∨ x = 46 ∨ x = 44 ∨ x = 58 ∨ x = 59 ∨ x = 33 ∨ x = 124
  · rw [decide_eq_true b1] at q1
    rw [em_2 b1]
    clear b1 q2 h
    go_enter Try.func82, Try.ntmps82
    go_wp2_with (go_at_call 99; refine (in_any _ _ _ (by decide)).mono ?_; rw [q1]; rintro e w' ⟨rfl, hww⟩; subst w')
    go_ret
    exact ⟨rfl, rfl⟩
  · rw [decide_eq_false b1] at q1
    by_cases b2 : x = 102 ∨ x = 116 ∨ x = 114 ∨ x = 40 ∨ x = 41 ∨ x = 91 ∨ x = 93 ∨ x = 123 ∨ x = 125 ∨ x = 45 ∨ x = 34 ∨ x = 94 ∨ x = 95 ∨ x = 126 ∨ x = 32 ∨ x = 73
    · rw [decide_eq_true b2] at q2
      have e1 : emI x = 3 := by unfold emI; rw [if_neg b1, if_pos (by omega)]
      rw [e1]
      clear b1 b2 e1 h
      go_enter Try.func82, Try.ntmps82
      go_wp2_with (go_at_call 99; refine (in_any _ _ _ (by decide)).mono ?_; (first | rw [q1] | rw [q2]); rintro e w' ⟨rfl, hww⟩; subst w')
      go_ret
      exact ⟨rfl, rfl⟩
    · rw [decide_eq_false b2] at q2
      have c1 : Hid (¬ (x = 105 ∨ x = 106 ∨ x = 108 ∨ x = 39 ∨ x = 46 ∨ x = 44 ∨ x = 58 ∨ x = 59 ∨ x = 33 ∨ x = 124)) := b1
      have c2 : Hid (¬ (x = 102 ∨ x = 116 ∨ x = 114 ∨ x = 40 ∨ x = 41 ∨ x = 91 ∨ x = 93 ∨ x = 123 ∨ x = 125 ∨ x = 45 ∨ x = 34 ∨ x = 94 ∨ x = 95 ∨ x = 126 ∨ x = 32 ∨ x = 73)) := b2
      clear b1 b2
      go_enter Try.func82, Try.ntmps82
      go_wp2_with (go_at_call 99; refine (in_any _ _ _ (by decide)).mono ?_; (first | rw [q1] | rw [q2]); rintro e w' ⟨rfl, hww⟩; subst w')
      all_goals go_ret
      all_goals refine ⟨?_, rfl⟩
      all_goals have d1 := c1.out
      all_goals have d2 := c2.out
      all_goals clear c1 c2 q1 q2
      all_goals congr 2
      all_goals try simp only [beq_iff_eq, beq_eq_false_iff_ne, ne_eq] at *
      all_goals first | (subst_vars; rfl) | (unfold emI; repeat (first | rw [if_neg (by omega)] | rw [if_pos (by omega)]))
      all_goals first | rfl | (exfalso; omega)

end Go.Proofs.Ytkhnfmdhdfpdhaa
