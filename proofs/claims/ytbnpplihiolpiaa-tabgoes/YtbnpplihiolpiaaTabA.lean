/-
  What is proved here: mayAlign, reaches, hang, and how two numbers compare.
-/
import Derived.Test.YtbnpplihiolpiaaMath
namespace Go.Proofs.Ytbnpplihiolpiaa
open Go.RowKit Go.Shelf

theorem below_drewN {n : Nat} {w w' : World} (h : Below n w w') (q : Nat) : Below n w (w'.drewN q) := ⟨h.1, h.2, h.3, h.4, h.5⟩

def alB (k : Int) : Bool := k == 0 || k == 2 || k == 3
theorem alB_true {k : Int} (h : alB k = true) : k = 0 ∨ k = 2 ∨ k = 3 := by
  unfold alB at h
  simp only [Bool.or_eq_true, beq_iff_eq] at h
  omega
theorem alB_false {k : Int} (h : alB k = false) : ¬ (k = 0 ∨ k = 2 ∨ k = 3) := by
  unfold alB at h
  simp only [Bool.or_eq_false_iff, beq_eq_false_iff_ne, ne_eq] at h
  omega
set_option maxRecDepth 100000 in
theorem mayAlign_any (k : Int) (w : World) : Calls Try.prog 20 #[.int .i64 k] w fun e w' => e = .returned (.bool (alB k)) ∧ w' = w := by
  go_enter Try.func20, Try.ntmps20
  by_cases h0 : k = 0
  · subst h0
    go_wp2
    go_ret
    exact ⟨rfl, rfl⟩
  by_cases h2 : k = 2
  · subst h2
    go_wp2
    go_ret
    exact ⟨rfl, rfl⟩
  by_cases h3 : k = 3
  · subst h3
    go_wp2
    go_ret
    exact ⟨rfl, rfl⟩
  go_wp2
  go_ret
  exact ⟨rfl, rfl⟩

set_option maxRecDepth 100000 in
theorem reaches_any (n : Int) (w : World) : Calls Try.prog 16 #[.int .i64 n] w fun e w' => e = .returned (.bool (inB n)) ∧ w' = w := by
  go_enter Try.func16, Try.ntmps16
  by_cases h0 : 0 ≤ n
  · by_cases h1 : n ≤ 8190
    · have hn : inB n = true := decide_eq_true ⟨h0, h1⟩
      rw [hn]
      go_wp2
      go_ret
      exact ⟨rfl, rfl⟩
    · have hn : inB n = false := decide_eq_false (by omega)
      rw [hn]
      go_wp2
      go_ret
      exact ⟨rfl, rfl⟩
  · have hn : inB n = false := decide_eq_false (by omega)
    rw [hn]
    go_wp2
    go_ret
    exact ⟨rfl, rfl⟩

set_option maxRecDepth 100000 in
theorem hang_any (k n : Int) (hn : 0 ≤ n ∧ n ≤ 8190) (w : World) : Calls Try.prog 19 #[.int .i64 k, .int .i64 n] w fun e w' => e = .returned (.int .i64 (hgI k n)) ∧ w' = w := by
  go_enter Try.func19, Try.ntmps19
  by_cases h2 : k = 2
  · subst h2
    go_wp2
    go_ret
    exact ⟨rfl, rfl⟩
  by_cases h3 : k = 3
  · subst h3
    go_wp2
    go_ret
    refine ⟨?_, rfl⟩
    show _ = Ending.returned (.int .i64 (n.tdiv 2))
    rw [Int.tdiv_eq_ediv_of_nonneg hn.1]; rfl
  have hx : hgI k n = 0 := by unfold hgI; rw [if_neg h2, if_neg h3]
  rw [hx]
  go_wp2
  go_ret
  exact ⟨rfl, rfl⟩

set_option maxRecDepth 100000 in
theorem isNaN_any (n : Int) (w : World) : Calls Try.prog 24 #[.int .i64 n] w fun e w' => e = .returned (.bool false) ∧ w' = w := by
  go_enter Try.func24, Try.ntmps24
  go_wp2
  go_ret
  exact ⟨rfl, rfl⟩

def cmpI (x y : Int) : Int := if x < y then -1 else if y < x then 1 else 0
set_option maxRecDepth 100000 in
theorem compare_any (x y : Int) (w : World) : Calls Try.prog 23 #[.int .i64 x, .int .i64 y] w fun e w' => e = .returned (.int .i64 (cmpI x y)) ∧ w' = w := by
  have hn := isNaN_any
  by_cases h1 : x < y
  · have hc : cmpI x y = -1 := if_pos h1
    rw [hc]
    go_enter Try.func23, Try.ntmps23
    go_wp2_with fail
    refine (hn x w).mono ?_
    rintro e w' ⟨rfl, hw⟩
    subst w'
    go_wp2_with fail
    refine (hn y w).mono ?_
    rintro e w' ⟨rfl, hw⟩
    subst w'
    go_wp2_with fail
    go_ret
    exact ⟨rfl, rfl⟩
  by_cases h2 : y < x
  · have hc : cmpI x y = 1 := by unfold cmpI; rw [if_neg h1, if_pos h2]
    rw [hc]
    go_enter Try.func23, Try.ntmps23
    go_wp2_with fail
    refine (hn x w).mono ?_
    rintro e w' ⟨rfl, hw⟩
    subst w'
    go_wp2_with fail
    refine (hn y w).mono ?_
    rintro e w' ⟨rfl, hw⟩
    subst w'
    go_wp2_with fail
    go_ret
    exact ⟨rfl, rfl⟩
  have hc : cmpI x y = 0 := by unfold cmpI; rw [if_neg h1, if_neg h2]
  rw [hc]
  go_enter Try.func23, Try.ntmps23
  go_wp2_with fail
  refine (hn x w).mono ?_
  rintro e w' ⟨rfl, hw⟩
  subst w'
  go_wp2_with fail
  refine (hn y w).mono ?_
  rintro e w' ⟨rfl, hw⟩
  subst w'
  go_wp2_with fail
  go_ret
  exact ⟨rfl, rfl⟩

set_option maxRecDepth 100000 in
theorem close_any (s : St) (t : Int) (w : World) : Calls Try.prog 22 #[stV s, .int .i64 t] w fun e w' => e = .returned (.int .i64 (cmpI s.a t)) ∧ Below w.heap.size w w' := by
  obtain ⟨a, k⟩ := s
  have hc := compare_any a t
  unfold stV
  go_enter Try.func22, Try.ntmps22
  go_wp2_with fail
  refine (hc _).mono ?_
  rintro e w' ⟨rfl, hw⟩
  subst w'
  go_wp2_with fail
  go_ret
  exact ⟨rfl, (Below.refl _ w).alloc (Nat.le_refl _) _⟩
end Go.Proofs.Ytbnpplihiolpiaa
