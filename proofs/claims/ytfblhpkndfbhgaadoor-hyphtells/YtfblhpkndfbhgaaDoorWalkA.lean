/-
  What is proved here: what isSmall, isDigit, isLetter and the document's small and digit answer, and at.
-/
import Derived.Test.YtfblhpkndfbhgaaDoorRows
import Derived.Test.YtfblhpkndfbhgaaDoorMath
import Derived.Test.YtfblhpkndfbhgaaDoorRec
import Derived.Test.YtfblhpkndfbhgaaDoorReg
import Derived.BigQuiet
import Derived.Handy
namespace Go.Proofs.YtfblhpkndfbhgaaDoor
open Go.RowKit Go.Shelf

theorem below_drewN {n : Nat} {w w' : World} (h : Below n w w') (q : Nat) : Below n w (w'.drewN q) := ⟨h.1, h.2, h.3, h.4, h.5⟩
theorem smI_yes {x : Int} (h1 : 97 ≤ x) (h2 : x ≤ 122) : smI x = true := by unfold smI; rw [decide_eq_true h1, decide_eq_true h2]; rfl
theorem smI_no {x : Int} (h : x < 97 ∨ 122 < x) : smI x = false := by unfold smI; simp; omega
theorem grI_yes {x : Int} (h1 : 65 ≤ x) (h2 : x ≤ 90) : grI x = true := by unfold grI; rw [decide_eq_true h1, decide_eq_true h2]; rfl
theorem grI_no {x : Int} (h : x < 65 ∨ 90 < x) : grI x = false := by unfold grI; simp; omega
theorem dgI_yes {x : Int} (h1 : 48 ≤ x) (h2 : x ≤ 57) : dgI x = true := by unfold dgI; rw [decide_eq_true h1, decide_eq_true h2]; rfl
theorem dgI_no {x : Int} (h : x < 48 ∨ 57 < x) : dgI x = false := by unfold dgI; simp; omega
theorem smI_rng {x : Int} (h : smI x = true) : 97 ≤ x ∧ x ≤ 122 := by unfold smI at h; simpa using h
theorem grI_rng {x : Int} (h : grI x = true) : 65 ≤ x ∧ x ≤ 90 := by unfold grI at h; simpa using h
theorem dgI_rng {x : Int} (h : dgI x = true) : 48 ≤ x ∧ x ≤ 57 := by unfold dgI at h; simpa using h

theorem isSmall_any (x : Int) (w : World) : Calls Tryd.prog 45 #[.int .u8 x] w fun e w' => e = .returned (.bool (smI x)) ∧ w' = w := by
  by_cases h1 : 97 ≤ x
  · by_cases h2 : x ≤ 122
    · rw [smI_yes h1 h2]
      go_enter Tryd.func45, Tryd.ntmps45
      go_wp2
      go_ret
      exact ⟨rfl, rfl⟩
    · rw [smI_no (by omega)]
      go_enter Tryd.func45, Tryd.ntmps45
      go_wp2
      go_ret
      exact ⟨rfl, rfl⟩
  · rw [smI_no (by omega)]
    go_enter Tryd.func45, Tryd.ntmps45
    go_wp2
    go_ret
    exact ⟨rfl, rfl⟩
theorem isDigit_any (x : Int) (w : World) : Calls Tryd.prog 46 #[.int .u8 x] w fun e w' => e = .returned (.bool (dgI x)) ∧ w' = w := by
  by_cases h1 : 48 ≤ x
  · by_cases h2 : x ≤ 57
    · rw [dgI_yes h1 h2]
      go_enter Tryd.func46, Tryd.ntmps46
      go_wp2
      go_ret
      exact ⟨rfl, rfl⟩
    · rw [dgI_no (by omega)]
      go_enter Tryd.func46, Tryd.ntmps46
      go_wp2
      go_ret
      exact ⟨rfl, rfl⟩
  · rw [dgI_no (by omega)]
    go_enter Tryd.func46, Tryd.ntmps46
    go_wp2
    go_ret
    exact ⟨rfl, rfl⟩
theorem rsmall_any (x : Int) (w : World) : Calls Tryd.prog 42 #[.int .u8 x] w fun e w' => e = .returned (.bool (smI x)) ∧ w' = w := by
  by_cases h1 : 97 ≤ x
  · by_cases h2 : x ≤ 122
    · rw [smI_yes h1 h2]
      go_enter Tryd.func42, Tryd.ntmps42
      go_wp2
      go_ret
      exact ⟨rfl, rfl⟩
    · rw [smI_no (by omega)]
      go_enter Tryd.func42, Tryd.ntmps42
      go_wp2
      go_ret
      exact ⟨rfl, rfl⟩
  · rw [smI_no (by omega)]
    go_enter Tryd.func42, Tryd.ntmps42
    go_wp2
    go_ret
    exact ⟨rfl, rfl⟩
theorem rdigit_any (x : Int) (w : World) : Calls Tryd.prog 53 #[.int .u8 x] w fun e w' => e = .returned (.bool (dgI x)) ∧ w' = w := by
  by_cases h1 : 48 ≤ x
  · by_cases h2 : x ≤ 57
    · rw [dgI_yes h1 h2]
      go_enter Tryd.func53, Tryd.ntmps53
      go_wp2
      go_ret
      exact ⟨rfl, rfl⟩
    · rw [dgI_no (by omega)]
      go_enter Tryd.func53, Tryd.ntmps53
      go_wp2
      go_ret
      exact ⟨rfl, rfl⟩
  · rw [dgI_no (by omega)]
    go_enter Tryd.func53, Tryd.ntmps53
    go_wp2
    go_ret
    exact ⟨rfl, rfl⟩
theorem isLetter_any (x : Int) (w : World) : Calls Tryd.prog 54 #[.int .u8 x] w fun e w' => e = .returned (.bool (ltI x)) ∧ w' = w := by
  have hS := isSmall_any x w
  unfold ltI
  cases hs : smI x with
  | true =>
    rw [hs] at hS
    clear hs
    go_enter Tryd.func54, Tryd.ntmps54
    go_wp2_with (go_at_call 45; refine hS.mono ?_; rintro e w' ⟨rfl, hww⟩; subst w')
    go_ret
    exact ⟨rfl, rfl⟩
  | false =>
    rw [hs] at hS
    clear hs
    rw [Bool.false_or]
    by_cases h1 : 65 ≤ x
    · by_cases h2 : x ≤ 90
      · rw [grI_yes h1 h2]
        go_enter Tryd.func54, Tryd.ntmps54
        go_wp2_with (go_at_call 45; refine hS.mono ?_; rintro e w' ⟨rfl, hww⟩; subst w')
        go_ret
        exact ⟨rfl, rfl⟩
      · rw [grI_no (by omega)]
        go_enter Tryd.func54, Tryd.ntmps54
        go_wp2_with (go_at_call 45; refine hS.mono ?_; rintro e w' ⟨rfl, hww⟩; subst w')
        go_ret
        exact ⟨by show Ending.returned (Value.bool (decide (x ≤ 90))) = _; rw [decide_eq_false (show ¬ x ≤ 90 by omega)], rfl⟩
    · rw [grI_no (by omega)]
      go_enter Tryd.func54, Tryd.ntmps54
      go_wp2_with (go_at_call 45; refine hS.mono ?_; rintro e w' ⟨rfl, hww⟩; subst w')
      go_ret
      exact ⟨rfl, rfl⟩

end Go.Proofs.YtfblhpkndfbhgaaDoor
