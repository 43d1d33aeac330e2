/-
  What is proved here: what kind, isAccent, end, refuse, refusePlace of cluster answer, and the document's Kind, letter, accent, Wrong.
-/
import Derived.Test.YtkhnfmdhdfpdhaaMath
import Derived.WalkKit
import Derived.WalkSpells
import Derived.LoopN
namespace Go.Proofs.Ytkhnfmdhdfpdhaa
open Go.RowKit Go.Shelf

theorem cases_kind (x : Int) : x < 1 ∨ x = 1 ∨ x = 2 ∨ x = 3 ∨ (3 < x ∧ x < 9) ∨ x = 9 ∨ (9 < x ∧ x < 31) ∨ x = 31 ∨ x = 32 ∨ (32 < x ∧ x < 65) ∨ (65 ≤ x ∧ x ≤ 90) ∨ (90 < x ∧ x < 97) ∨ (97 ≤ x ∧ x ≤ 122) ∨ (122 < x ∧ x ≤ 126) ∨ 126 < x := by omega

set_option maxHeartbeats 2000000 in
theorem kind_any (x : Int) (w : World) : Calls Try.prog 105 #[.int .u8 x] w fun e w' => e = .returned (.int .i64 (kindI x)) ∧ w' = w := by
  have hv : kindI x = (if (97 ≤ x ∧ x ≤ 122) ∨ (65 ≤ x ∧ x ≤ 90) then 1 else if x = 32 then 3 else if 32 < x ∧ x ≤ 126 then 2 else if x = 9 then 4 else if x = 31 then 5
    else if x = 1 then 6 else if x = 2 then 7 else if x = 3 then 8 else 0) := rfl
  rcases cases_kind x with h | h | h | h | h | h | h | h | h | h | h | h | h | h | h
  all_goals
    first
      | (have e1 : kindI x = 1 := by rw [hv]; repeat (first | rw [if_neg (by omega)] | rw [if_pos (by omega)])
         rw [e1])
      | (have e1 : kindI x = 3 := by rw [hv]; repeat (first | rw [if_neg (by omega)] | rw [if_pos (by omega)])
         rw [e1])
      | (have e1 : kindI x = 2 := by rw [hv]; repeat (first | rw [if_neg (by omega)] | rw [if_pos (by omega)])
         rw [e1])
      | (have e1 : kindI x = 4 := by rw [hv]; repeat (first | rw [if_neg (by omega)] | rw [if_pos (by omega)])
         rw [e1])
      | (have e1 : kindI x = 5 := by rw [hv]; repeat (first | rw [if_neg (by omega)] | rw [if_pos (by omega)])
         rw [e1])
      | (have e1 : kindI x = 6 := by rw [hv]; repeat (first | rw [if_neg (by omega)] | rw [if_pos (by omega)])
         rw [e1])
      | (have e1 : kindI x = 7 := by rw [hv]; repeat (first | rw [if_neg (by omega)] | rw [if_pos (by omega)])
         rw [e1])
      | (have e1 : kindI x = 8 := by rw [hv]; repeat (first | rw [if_neg (by omega)] | rw [if_pos (by omega)])
         rw [e1])
      | (have e1 : kindI x = 0 := by rw [hv]; repeat (first | rw [if_neg (by omega)] | rw [if_pos (by omega)])
         rw [e1])
    clear hv
    go_enter Try.func105, Try.ntmps105
    go_wp2
    all_goals (go_ret; first | exact ⟨rfl, rfl⟩ | (exfalso; omega))

set_option maxHeartbeats 1000000 in
theorem isAccent_any (x : Int) (w : World) : Calls Try.prog 112 #[.int .u8 x] w fun e w' => e = .returned (.bool (accB x)) ∧ w' = w := by
  have hv : accB x = decide (x = 94 ∨ x = 96 ∨ x = 126) := rfl
  have hc : x < 94 ∨ x = 94 ∨ x = 95 ∨ x = 96 ∨ (96 < x ∧ x < 126) ∨ x = 126 ∨ 126 < x := by omega
  rcases hc with h | h | h | h | h | h | h
  all_goals
    first
      | (have e1 : accB x = true := by rw [hv]; simp; omega
         rw [e1])
      | (have e1 : accB x = false := by rw [hv]; simp; omega
         rw [e1])
    clear hv
    go_enter Try.func112, Try.ntmps112
    go_wp2
    all_goals (go_ret; first | exact ⟨rfl, rfl⟩ | (exfalso; omega))

set_option maxHeartbeats 1000000 in
theorem raccent_any (x : Int) (w : World) : Calls Try.prog 81 #[.int .u8 x] w fun e w' => e = .returned (.bool (accB x)) ∧ w' = w := by
  have hv : accB x = decide (x = 94 ∨ x = 96 ∨ x = 126) := rfl
  have hc : x < 94 ∨ x = 94 ∨ x = 95 ∨ x = 96 ∨ (96 < x ∧ x < 126) ∨ x = 126 ∨ 126 < x := by omega
  rcases hc with h | h | h | h | h | h | h
  all_goals
    first
      | (have e1 : accB x = true := by rw [hv]; simp; omega
         rw [e1])
      | (have e1 : accB x = false := by rw [hv]; simp; omega
         rw [e1])
    clear hv
    have f1 : (x == 94) = decide (x = 94) := by by_cases h : x = 94 <;> simp [h]
    have f2 : (x == 96) = decide (x = 96) := by by_cases h : x = 96 <;> simp [h]
    go_enter Try.func81, Try.ntmps81
    go_wp2
    all_goals (go_ret; first | exact ⟨rfl, rfl⟩ | (exfalso; omega) | (refine ⟨?_, rfl⟩; congr 2; simp <;> omega))

set_option maxHeartbeats 1000000 in
theorem rletter_any (x : Int) (w : World) : Calls Try.prog 98 #[.int .u8 x] w fun e w' => e = .returned (.bool (letB x)) ∧ w' = w := by
  have hv : letB x = decide ((97 ≤ x ∧ x ≤ 122) ∨ (65 ≤ x ∧ x ≤ 90)) := rfl
  have hc : x < 65 ∨ (65 ≤ x ∧ x ≤ 90) ∨ (90 < x ∧ x < 97) ∨ (97 ≤ x ∧ x ≤ 122) ∨ 122 < x := by omega
  rcases hc with h | h | h | h | h
  all_goals
    first
      | (have e1 : letB x = true := by rw [hv]; simp; omega
         rw [e1])
      | (have e1 : letB x = false := by rw [hv]; simp; omega
         rw [e1])
    clear hv
    go_enter Try.func98, Try.ntmps98
    go_wp2
    all_goals (go_ret; first | exact ⟨rfl, rfl⟩ | (exfalso; omega) | (refine ⟨?_, rfl⟩; congr 2; simp <;> omega))

set_option maxHeartbeats 2000000 in
theorem rkind_any (x : Int) (w : World) : Calls Try.prog 80 #[.int .u8 x] w fun e w' => e = .returned (.int .i64 (kindI x)) ∧ w' = w := by
  have hv : kindI x = (if (97 ≤ x ∧ x ≤ 122) ∨ (65 ≤ x ∧ x ≤ 90) then 1 else if x = 32 then 3 else if 32 < x ∧ x ≤ 126 then 2 else if x = 9 then 4 else if x = 31 then 5
    else if x = 1 then 6 else if x = 2 then 7 else if x = 3 then 8 else 0) := rfl
  have hl := rletter_any x w
  have hv2 : letB x = decide ((97 ≤ x ∧ x ≤ 122) ∨ (65 ≤ x ∧ x ≤ 90)) := rfl
  rcases cases_kind x with h | h | h | h | h | h | h | h | h | h | h | h | h | h | h
  all_goals
    first
      | (have e1 : letB x = true := by rw [hv2]; simp; omega
         rw [e1] at hl)
      | (have e1 : letB x = false := by rw [hv2]; simp; omega
         rw [e1] at hl)
    first
      | (have e1 : kindI x = 1 := by rw [hv]; repeat (first | rw [if_neg (by omega)] | rw [if_pos (by omega)])
         rw [e1])
      | (have e1 : kindI x = 3 := by rw [hv]; repeat (first | rw [if_neg (by omega)] | rw [if_pos (by omega)])
         rw [e1])
      | (have e1 : kindI x = 2 := by rw [hv]; repeat (first | rw [if_neg (by omega)] | rw [if_pos (by omega)])
         rw [e1])
      | (have e1 : kindI x = 4 := by rw [hv]; repeat (first | rw [if_neg (by omega)] | rw [if_pos (by omega)])
         rw [e1])
      | (have e1 : kindI x = 5 := by rw [hv]; repeat (first | rw [if_neg (by omega)] | rw [if_pos (by omega)])
         rw [e1])
      | (have e1 : kindI x = 6 := by rw [hv]; repeat (first | rw [if_neg (by omega)] | rw [if_pos (by omega)])
         rw [e1])
      | (have e1 : kindI x = 7 := by rw [hv]; repeat (first | rw [if_neg (by omega)] | rw [if_pos (by omega)])
         rw [e1])
      | (have e1 : kindI x = 8 := by rw [hv]; repeat (first | rw [if_neg (by omega)] | rw [if_pos (by omega)])
         rw [e1])
      | (have e1 : kindI x = 0 := by rw [hv]; repeat (first | rw [if_neg (by omega)] | rw [if_pos (by omega)])
         rw [e1])
    clear hv hv2
    go_enter Try.func80, Try.ntmps80
    go_wp2_with (go_at_call 98; refine hl.mono ?_; rintro e w' ⟨rfl, rfl⟩)
    all_goals (go_ret; first | exact ⟨rfl, rfl⟩ | (exfalso; omega))

end Go.Proofs.Ytkhnfmdhdfpdhaa
