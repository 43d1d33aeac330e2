/-
  What is proved here: which numbers and sides may be, what overlaps, how much room there is.
-/
import Derived.Test.YthdlhikpjpfpeaaMath
namespace Go.Proofs.Ythdlhikpjpfpeaa
open Go.RowKit Go.Shelf

set_option maxRecDepth 100000 in
theorem reaches_any (n : Int) (w : World) : Calls Try.prog 20 #[.int .i64 n] w fun e w' => e = .returned (.bool (inB n)) ∧ w' = w := by
  go_enter Try.func20, Try.ntmps20
  by_cases h0 : 0 ≤ n
  · by_cases h1 : n ≤ 4095
    · have hn : inB n = true := decide_eq_true ⟨h0, h1⟩
      rw [hn]
      go_wp2
      go_ret
      exact ⟨rfl, rfl⟩
    · have hn : inB n = false := decide_eq_false (by omega)
      rw [hn]
      go_wp2
      go_ret
      exact ⟨rfl, rfl⟩
  · have hn : inB n = false := decide_eq_false (by omega)
    rw [hn]
    go_wp2
    go_ret
    exact ⟨rfl, rfl⟩
set_option maxRecDepth 100000 in
theorem within_any (n : Int) (w : World) : Calls Try.prog 22 #[.int .i64 n] w fun e w' => e = .returned (.bool (inB n)) ∧ w' = w := by
  go_enter Try.func22, Try.ntmps22
  by_cases h0 : 0 ≤ n
  · by_cases h1 : n ≤ 4095
    · have hn : inB n = true := decide_eq_true ⟨h0, h1⟩
      rw [hn]
      go_wp2
      go_ret
      exact ⟨rfl, rfl⟩
    · have hn : inB n = false := decide_eq_false (by omega)
      rw [hn]
      go_wp2
      go_ret
      exact ⟨rfl, rfl⟩
  · have hn : inB n = false := decide_eq_false (by omega)
    rw [hn]
    go_wp2
    go_ret
    exact ⟨rfl, rfl⟩
set_option maxRecDepth 100000 in
theorem isSide_any (k : Int) (w : World) : Calls Try.prog 25 #[.int .i64 k] w fun e w' => e = .returned (.bool (sdB k)) ∧ w' = w := by
  go_enter Try.func25, Try.ntmps25
  by_cases h0 : k = 0
  · subst h0
    go_wp2
    go_ret
    exact ⟨rfl, rfl⟩
  by_cases h2 : k = 2
  · subst h2
    go_wp2
    go_ret
    exact ⟨rfl, rfl⟩
  go_wp2
  go_ret
  exact ⟨rfl, rfl⟩
set_option maxRecDepth 100000 in
theorem side_any (k : Int) (w : World) : Calls Try.prog 26 #[.int .i64 k] w fun e w' => e = .returned (.bool (sdB k)) ∧ w' = w := by
  go_enter Try.func26, Try.ntmps26
  by_cases h0 : k = 0
  · subst h0
    go_wp2
    go_ret
    exact ⟨rfl, rfl⟩
  by_cases h2 : k = 2
  · subst h2
    go_wp2
    go_ret
    exact ⟨rfl, rfl⟩
  go_wp2
  go_ret
  exact ⟨rfl, rfl⟩
def ovB (a n b m : Int) : Bool := decide (0 < n ∧ 0 < m ∧ a < b + m ∧ b < a + n)
set_option maxRecDepth 100000 in
theorem overlap_any (a n b m : Int) (ha : 0 ≤ a ∧ a ≤ 100000) (hn : 0 ≤ n ∧ n ≤ 100000) (hb : 0 ≤ b ∧ b ≤ 100000) (hm : 0 ≤ m ∧ m ≤ 100000) (w : World) : Calls Try.prog 18 #[.int .i64 a, .int .i64 n, .int .i64 b, .int .i64 m] w fun e w' => e = .returned (.bool (ovB a n b m)) ∧ w' = w := by
  obtain ⟨a1, a2⟩ := ha
  obtain ⟨n1, n2⟩ := hn
  obtain ⟨b1, b2⟩ := hb
  obtain ⟨m1, m2⟩ := hm
  have ho : ovB a n b m = decide (0 < n ∧ 0 < m ∧ a < b + m ∧ b < a + n) := rfl
  generalize ovB a n b m = r at *
  go_enter Try.func18, Try.ntmps18
  by_cases h1 : 0 < n
  · by_cases h2 : 0 < m
    · by_cases h3 : a < b + m
      · by_cases h4 : b < a + n
        · rw [decide_eq_true ⟨h1, h2, h3, h4⟩] at ho
          subst ho
          go_wp2
          go_ret
          exact ⟨rfl, rfl⟩
        · rw [decide_eq_false (fun h => h4 h.2.2.2)] at ho
          subst ho
          go_wp2
          go_ret
          exact ⟨rfl, rfl⟩
      · rw [decide_eq_false (fun h => h3 h.2.2.1)] at ho
        subst ho
        go_wp2
        go_ret
        exact ⟨rfl, rfl⟩
    · rw [decide_eq_false (fun h => h2 h.2.1)] at ho
      subst ho
      go_wp2
      go_ret
      exact ⟨rfl, rfl⟩
  · rw [decide_eq_false (fun h => h1 h.1)] at ho
    subst ho
    go_wp2
    go_ret
    exact ⟨rfl, rfl⟩
set_option maxRecDepth 100000 in
theorem room_any (n : Int) (hn : inB n = true) (w : World) : Calls Try.prog 27 #[.int .i64 n] w fun e w' => e = .returned (.int .i64 ((max (n - 10) 0) / 2)) ∧ w' = w := by
  obtain ⟨n1, n2⟩ := inB_get hn
  by_cases h : 10 ≤ n
  · have e : (max (n - 10) 0) / 2 = (n - 10) / 2 := by omega
    rw [e]
    clear hn e
    go_enter Try.func27, Try.ntmps27
    go_wp2
    all_goals go_ret
    all_goals exact ⟨rfl, rfl⟩
  · have e : (max (n - 10) 0) / 2 = 0 := by omega
    rw [e]
    clear hn e
    go_enter Try.func27, Try.ntmps27
    go_wp2
    all_goals go_ret
    all_goals exact ⟨rfl, rfl⟩

end Go.Proofs.Ythdlhikpjpfpeaa
