/-
  What is proved here: what the small functions of style answer: Bounds, field, may, Base, and the document's own Bounds, Base, Fits.
  What is proved here: what field and may of style answer, and the document's own Fits.
-/
import Derived.Test.YtifkelpgpdgenaaRows
import Derived.WalkKit
import Derived.WalkSpells
import Derived.Shelf.Abstract
import Derived.LaidEqlPtr
import Derived.Lib.Builder
import Derived.OwnWalk
import Derived.Laws.StructEq
namespace Go.Proofs.Ytifkelpgpdgenaa
open Go.RowKit Go.Shelf

/-- A fact that the walk does not look into. -/
def Hid (p : Prop) : Prop := p
theorem Hid.out {p : Prop} (h : Hid p) : p := h

def loP (n : Int) : Int := if n = 1 ∨ n = 2 ∨ n = 11 ∨ n = 12 then 1 else 0
def hiP (n : Int) : Int := if n = 1 then 64 else if n = 2 then 255 else if n = 3 ∨ n = 17 then 3 else if 4 ≤ n ∧ n ≤ 8 then 255 else if n = 9 ∨ n = 10 ∨ n = 13 ∨ n = 14 then 1 else if n = 11 ∨ n = 12 ∨ n = 15 then 4 else if n = 16 then 8 else 0
def isP (n : Int) : Bool := decide (1 ≤ n) && decide (n ≤ 17)
def mayS (n v : Int) : Bool := isP n && (decide (loP n ≤ v) && decide (v ≤ hiP n))

theorem isP_iff (n : Int) : isP n = true ↔ 1 ≤ n ∧ n ≤ 17 := by simp [isP]

theorem isP_cases {n : Int} (hn : 1 ≤ n ∧ n ≤ 17) : n = 1 ∨ n = 2 ∨ n = 3 ∨ n = 4 ∨ n = 5 ∨ n = 6 ∨ n = 7 ∨ n = 8 ∨ n = 9 ∨ n = 10 ∨ n = 11 ∨ n = 12 ∨ n = 13 ∨ n = 14 ∨ n = 15 ∨ n = 16 ∨ n = 17 := by omega
theorem isP_no {n : Int} (hn : ¬ (1 ≤ n ∧ n ≤ 17)) : isP n = false := by cases h : isP n with | false => rfl | true => exact absurd ((isP_iff n).1 h) hn
theorem isP_yes {n : Int} (hn : 1 ≤ n ∧ n ≤ 17) : isP n = true := (isP_iff n).2 hn

set_option maxHeartbeats 4000000 in
theorem bounds_any (n : Int) (w : World) : Calls Try.prog 9 #[.int .i64 n] w fun e w' => e = .returned (.tuple #[.int .i64 (loP n), .int .i64 (hiP n), .int .i64 (if isP n then 0 else 2)]) ∧ w' = w := by
  by_cases hn : 1 ≤ n ∧ n ≤ 17
  · rcases isP_cases hn with rfl | rfl | rfl | rfl | rfl | rfl | rfl | rfl | rfl | rfl | rfl | rfl | rfl | rfl | rfl | rfl | rfl
    all_goals
      go_enter Try.func9, Try.ntmps9
      go_wp2
      go_ret3
      exact ⟨rfl, rfl⟩
  · have e1 : loP n = 0 := by unfold loP; rw [if_neg (by omega)]
    have e2 : hiP n = 0 := by unfold hiP; repeat (first | rfl | rw [if_neg (by omega)])
    have e3 : isP n = false := isP_no hn
    rw [e1, e2, e3]
    have hs : n ≤ 0 ∨ 18 ≤ n := by omega
    have n1 : (n == 1) = false := by simp; omega
    have n2 : (n == 2) = false := by simp; omega
    have n3 : (n == 3) = false := by simp; omega
    have n4 : (n == 4) = false := by simp; omega
    have n5 : (n == 5) = false := by simp; omega
    have n6 : (n == 6) = false := by simp; omega
    have n7 : (n == 7) = false := by simp; omega
    have n8 : (n == 8) = false := by simp; omega
    have n9 : (n == 9) = false := by simp; omega
    have n10 : (n == 10) = false := by simp; omega
    have n11 : (n == 11) = false := by simp; omega
    have n12 : (n == 12) = false := by simp; omega
    have n13 : (n == 13) = false := by simp; omega
    have n14 : (n == 14) = false := by simp; omega
    have n15 : (n == 15) = false := by simp; omega
    have n16 : (n == 16) = false := by simp; omega
    have n17 : (n == 17) = false := by simp; omega
    clear hn e1 e2 e3
    rcases hs with hs | hs
    all_goals
      go_enter Try.func9, Try.ntmps9
      go_wp2
      go_ret3
      exact ⟨rfl, rfl⟩
set_option maxHeartbeats 4000000 in
theorem refBounds_any (n : Int) (w : World) : Calls Try.prog 10 #[.int .i64 n] w fun e w' => e = .returned (.tuple #[.int .i64 (loP n), .int .i64 (hiP n), .bool (isP n)]) ∧ w' = w := by
  by_cases hn : 1 ≤ n ∧ n ≤ 17
  · rcases isP_cases hn with rfl | rfl | rfl | rfl | rfl | rfl | rfl | rfl | rfl | rfl | rfl | rfl | rfl | rfl | rfl | rfl | rfl
    all_goals
      go_enter Try.func10, Try.ntmps10
      go_wp2
      go_ret3
      exact ⟨rfl, rfl⟩
  · have e1 : loP n = 0 := by unfold loP; rw [if_neg (by omega)]
    have e2 : hiP n = 0 := by unfold hiP; repeat (first | rfl | rw [if_neg (by omega)])
    have e3 : isP n = false := isP_no hn
    rw [e1, e2, e3]
    have hs : n ≤ 0 ∨ 18 ≤ n := by omega
    have n1 : (n == 1) = false := by simp; omega
    have n2 : (n == 2) = false := by simp; omega
    have n3 : (n == 3) = false := by simp; omega
    have n4 : (n == 4) = false := by simp; omega
    have n5 : (n == 5) = false := by simp; omega
    have n6 : (n == 6) = false := by simp; omega
    have n7 : (n == 7) = false := by simp; omega
    have n8 : (n == 8) = false := by simp; omega
    have n9 : (n == 9) = false := by simp; omega
    have n10 : (n == 10) = false := by simp; omega
    have n11 : (n == 11) = false := by simp; omega
    have n12 : (n == 12) = false := by simp; omega
    have n13 : (n == 13) = false := by simp; omega
    have n14 : (n == 14) = false := by simp; omega
    have n15 : (n == 15) = false := by simp; omega
    have n16 : (n == 16) = false := by simp; omega
    have n17 : (n == 17) = false := by simp; omega
    clear hn e1 e2 e3
    rcases hs with hs | hs
    all_goals
      go_enter Try.func10, Try.ntmps10
      go_wp2
      go_ret3
      exact ⟨rfl, rfl⟩
end Go.Proofs.Ytifkelpgpdgenaa

namespace Go.Proofs.Ytifkelpgpdgenaa
open Go.RowKit Go.Shelf

set_option maxHeartbeats 4000000 in
theorem field_yes (B : Nat) (n : Int) (hn : 1 ≤ n ∧ n ≤ 17) (w : World) : Calls Try.prog 34 #[.pointer (some ⟨B, 0, none⟩), .int .i64 n] w fun e w' => e = .returned (.pointer (some ⟨B, n.toNat - 1, none⟩)) ∧ w' = w := by
  rcases isP_cases hn with rfl | rfl | rfl | rfl | rfl | rfl | rfl | rfl | rfl | rfl | rfl | rfl | rfl | rfl | rfl | rfl | rfl
  all_goals
    go_enter Try.func34, Try.ntmps34
    go_wp2
    go_ret
    exact ⟨rfl, rfl⟩
set_option maxHeartbeats 4000000 in
theorem field_no (B : Nat) (n : Int) (hn : ¬ (1 ≤ n ∧ n ≤ 17)) (w : World) : Calls Try.prog 34 #[.pointer (some ⟨B, 0, none⟩), .int .i64 n] w fun e w' => e = .returned (.pointer none) ∧ w' = w := by
  have n1 : (n == 1) = false := by simp; omega
  have n2 : (n == 2) = false := by simp; omega
  have n3 : (n == 3) = false := by simp; omega
  have n4 : (n == 4) = false := by simp; omega
  have n5 : (n == 5) = false := by simp; omega
  have n6 : (n == 6) = false := by simp; omega
  have n7 : (n == 7) = false := by simp; omega
  have n8 : (n == 8) = false := by simp; omega
  have n9 : (n == 9) = false := by simp; omega
  have n10 : (n == 10) = false := by simp; omega
  have n11 : (n == 11) = false := by simp; omega
  have n12 : (n == 12) = false := by simp; omega
  have n13 : (n == 13) = false := by simp; omega
  have n14 : (n == 14) = false := by simp; omega
  have n15 : (n == 15) = false := by simp; omega
  have n16 : (n == 16) = false := by simp; omega
  have n17 : (n == 17) = false := by simp; omega
  go_enter Try.func34, Try.ntmps34
  go_wp2
  go_ret
  exact ⟨rfl, rfl⟩

def seV (n v : Int) : Value := .agg #[.int .i64 n, .int .i64 v]
theorem mayS_no {n v : Int} (h : isP n = false) : mayS n v = false := by unfold mayS; rw [h]; rfl
theorem mayS_yes {n v : Int} (h : isP n = true) : mayS n v = (decide (loP n ≤ v) && decide (v ≤ hiP n)) := by unfold mayS; rw [h]; rfl

set_option maxHeartbeats 4000000 in
theorem may_any (n v : Int) (w : World) : Calls Try.prog 33 #[seV n v] w fun e w' => e = .returned (.bool (mayS n v)) ∧ Below w.heap.size w w' := by
  unfold seV
  have hB := (Below.refl w.heap.size w).alloc (Nat.le_refl _) (Obj.cells #[.int .i64 n, .int .i64 v] 37)
  have hb := bounds_any n
  cases h : isP n
  · rw [h] at hb
    rw [mayS_no h]
    go_enter Try.func33, Try.ntmps33
    go_wp2_with (go_at_call 9; refine (hb _).mono ?_; rintro e w' ⟨rfl, hww⟩; subst w')
    go_ret
    exact ⟨rfl, hB⟩
  · rw [h] at hb
    rw [mayS_yes h]
    go_enter Try.func33, Try.ntmps33
    go_wp2_with (go_at_call 9; refine (hb _).mono ?_; rintro e w' ⟨rfl, hww⟩; subst w')
    all_goals (go_ret; refine ⟨?_, hB⟩; congr 2; simp_all <;> omega)

set_option maxHeartbeats 4000000 in
theorem refFits_any (n v : Int) (w : World) : Calls Try.prog 18 #[seV n v] w fun e w' => e = .returned (.bool (mayS n v)) ∧ Below w.heap.size w w' := by
  unfold seV
  have hB := (Below.refl w.heap.size w).alloc (Nat.le_refl _) (Obj.cells #[.int .i64 n, .int .i64 v] 37)
  have hb := refBounds_any n
  cases h : isP n
  · rw [h] at hb
    rw [mayS_no h]
    go_enter Try.func18, Try.ntmps18
    go_wp2_with (go_at_call 10; refine (hb _).mono ?_; rintro e w' ⟨rfl, hww⟩; subst w')
    go_ret
    exact ⟨rfl, hB⟩
  · rw [h] at hb
    rw [mayS_yes h]
    go_enter Try.func18, Try.ntmps18
    go_wp2_with (go_at_call 10; refine (hb _).mono ?_; rintro e w' ⟨rfl, hww⟩; subst w')
    all_goals (go_ret; refine ⟨?_, hB⟩; congr 2; simp_all <;> omega)

end Go.Proofs.Ytifkelpgpdgenaa
