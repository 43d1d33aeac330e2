/-
  What is proved here: what the document's small functions answer: from, bit, visible, shown, Char.
-/
import Derived.Test.YtidmmllbobimeaaMassMath
namespace Go.Proofs.Ytidmmllbobimeaa
open Go.RowKit Go.Shelf

set_option maxRecDepth 100000 in
set_option maxHeartbeats 1000000 in
theorem from_any (n a b : Int) (w : World) : Calls Try.prog 64 #[.int .i64 n, .int .i64 a, .int .i64 b] w fun e w' => e = .returned (.bool (bdB (n, a, b))) ∧ w' = w := by
  have hv : bdB (n, a, b) = decide (a ≤ n ∧ n ≤ b) := rfl
  rw [hv]
  clear hv
  by_cases h1 : a ≤ n
  · by_cases h2 : n ≤ b
    · rw [decide_eq_true ⟨h1, h2⟩]
      go_enter Try.func64, Try.ntmps64
      go_wp2_with fail
      go_ret
      exact ⟨by first | rfl | (congr 2; simp; omega), rfl⟩
    · rw [decide_eq_false (fun h => h2 h.2)]
      go_enter Try.func64, Try.ntmps64
      go_wp2_with fail
      go_ret
      exact ⟨by first | rfl | (congr 2; simp; omega), rfl⟩
  · rw [decide_eq_false (fun h => h1 h.1)]
    go_enter Try.func64, Try.ntmps64
    go_wp2_with fail
    go_ret
    exact ⟨by first | rfl | (congr 2; simp; omega), rfl⟩

set_option maxRecDepth 100000 in
set_option maxHeartbeats 1000000 in
theorem bit_any (n : Int) (w : World) : Calls Try.prog 65 #[.int .i64 n] w fun e w' => e = .returned (.bool (bdB (n, 0, 1))) ∧ w' = w := by
  have hv : bdB (n, 0, 1) = decide (0 ≤ n ∧ n ≤ 1) := rfl
  rw [hv]
  clear hv
  by_cases h1 : n = 0
  · subst h1
    go_enter Try.func65, Try.ntmps65
    go_wp2_with fail
    go_ret
    exact ⟨rfl, rfl⟩
  · have f1 : (n == 0) = false := by simpa using h1
    by_cases h2 : n = 1
    · subst h2
      go_enter Try.func65, Try.ntmps65
      go_wp2_with fail
      go_ret
      exact ⟨rfl, rfl⟩
    · have f2 : (n == 1) = false := by simpa using h2
      rw [decide_eq_false (by omega)]
      clear h1 h2
      go_enter Try.func65, Try.ntmps65
      go_wp2_with fail
      go_ret
      exact ⟨rfl, rfl⟩

def visK (k : Int) : Bool := decide (k = 1 ∨ k = 2)
set_option maxRecDepth 100000 in
set_option maxHeartbeats 1000000 in
theorem visible_any (n : Int) (w : World) : Calls Try.prog 41 #[.int .i64 n] w fun e w' => e = .returned (.bool (visK n)) ∧ w' = w := by
  have hv : visK n = decide (n = 1 ∨ n = 2) := rfl
  rw [hv]
  clear hv
  by_cases h1 : n = 1
  · subst h1
    go_enter Try.func41, Try.ntmps41
    go_wp2_with fail
    go_ret
    exact ⟨rfl, rfl⟩
  · have f1 : (n == 1) = false := by simpa using h1
    by_cases h2 : n = 2
    · subst h2
      go_enter Try.func41, Try.ntmps41
      go_wp2_with fail
      go_ret
      exact ⟨rfl, rfl⟩
    · have f2 : (n == 2) = false := by simpa using h2
      rw [decide_eq_false (by omega)]
      clear h1 h2
      go_enter Try.func41, Try.ntmps41
      go_wp2_with fail
      go_ret
      exact ⟨rfl, rfl⟩

set_option maxRecDepth 100000 in
set_option maxHeartbeats 1000000 in
theorem shown_any (s : ByteArray) (hs : s.size ≤ 9223372036854775807) (b : Int) (w : World) : Calls Try.prog 46 #[.string s, .int .i64 b] w fun e w' => e = .returned (.bool (decide ((s.size : Int) ≤ b) && visB s)) ∧ w' = w := by
  have hN : Hid (∀ k, k < s.size → ¬ (32 < bt s k ∧ bt s k ≤ 126) → visB s = false) := fun k hk h => vis_no hk h
  have hY : Hid ((∀ k, k < s.size → 32 < bt s k ∧ bt s k ≤ 126) → visB s = true) := fun h => decide_eq_true h
  generalize visB s = r at hN hY ⊢
  go_enter Try.func46, Try.ntmps46
  go_wp2
  go_loopw [5] (fun i wr => ∃ k : Nat, k ≤ s.size ∧ i = .int .i64 k ∧ wr = w ∧ Hid (∀ j, j < k → 32 < bt s j ∧ bt s j ≤ 126)) (fun i _ => s.size - (intOf i).toNat)
  case atStart => exact ⟨0, by omega, rfl, rfl, fun j hj => by omega⟩
  case round =>
    obtain ⟨k, hk, rfl, rfl, hall⟩ := hrel
    by_cases hlt : k < s.size
    · have hb0 : Hid (bt s k = ((s[k]'hlt).toNat : Int)) := bt_eq hlt
      have hno' : Hid (¬ (32 < bt s k ∧ bt s k ≤ 126) → r = false) := hN.out k hlt
      have hyes : Hid ((32 < bt s k ∧ bt s k ≤ 126) → ∀ j, j < k + 1 → 32 < bt s j ∧ bt s j ≤ 126) := fun hv j hj => by
        by_cases h : j < k
        · exact hall.out j h
        · obtain rfl : j = k := by omega
          exact hv
      clear hN hY hall
      by_cases d1 : ((s[k]'hlt).toNat : Int) < 33
      · have hn := hno'.out (by rw [hb0.out]; omega)
        subst hn
        clear hno' hyes hb0
        go_wp2_with fail
        go_ret
        exact ⟨by first | rfl | (rw [Bool.and_false]; rfl), rfl⟩
      · by_cases d2 : 126 < ((s[k]'hlt).toNat : Int)
        · have hn := hno'.out (by rw [hb0.out]; omega)
          subst hn
          clear hno' hyes hb0
          go_wp2_with fail
          go_ret
          exact ⟨by first | rfl | (rw [Bool.and_false]; rfl), rfl⟩
        · have hy : Hid (∀ j, j < k + 1 → 32 < bt s j ∧ bt s j ≤ 126) := hyes.out (by rw [hb0.out]; omega)
          clear hno' hyes hb0
          go_wp2_with fail
          go_roundw
          case rel => exact ⟨k + 1, by omega, by simp, by first | rfl | trivial, hy⟩
          case measure => simp [intOf]; omega
    · have hn := hY.out (fun j hj => hall.out j (by omega))
      clear hN hY hall
      subst hn
      go_wp2_with fail
      go_ret
      exact ⟨by first | rfl | (rw [Bool.and_true]; rfl), rfl⟩

def chB3 (s t k : Int) : Bool := bdB (s, 0, 64) && bdB (t, 0, 15) && bdB (k, 0, 1)
theorem chB_3 (r : Sp) : chB r = chB3 r.s r.t r.k := by
  unfold chB chB3 bdB
  rw [Bool.eq_iff_iff]
  simp only [Bool.and_eq_true, decide_eq_true_eq]
  omega
set_option maxRecDepth 100000 in
set_option maxHeartbeats 1000000 in
theorem char_any (s t k : Int) (w : World) : Calls Try.prog 44 #[.agg #[.int .i64 s, .int .i64 t, .int .i64 k]] w fun e w' => e = .returned (.bool (chB3 s t k)) ∧ Below w.heap.size w w' := by
  have hB := (Below.refl w.heap.size w).alloc (Nat.le_refl _) (Obj.cells #[.int .i64 s, .int .i64 t, .int .i64 k] 49)
  have h1 := from_any s 0 64
  have h2 := from_any t 0 15
  have h3 := bit_any k
  have hv : chB3 s t k = (bdB (s, 0, 64) && bdB (t, 0, 15) && bdB (k, 0, 1)) := rfl
  rw [hv]
  clear hv
  generalize bdB (s, 0, 64) = b1 at *
  generalize bdB (t, 0, 15) = b2 at *
  generalize bdB (k, 0, 1) = b3 at *
  cases b1
  · go_enter Try.func44, Try.ntmps44
    go_wp2_with fail
    refine (h1 _).mono ?_
    rintro e w' ⟨rfl, hww⟩
    subst w'
    go_wp2_with fail
    go_ret
    exact ⟨rfl, hB⟩
  · cases b2
    · go_enter Try.func44, Try.ntmps44
      go_wp2_with fail
      refine (h1 _).mono ?_
      rintro e w' ⟨rfl, hww⟩
      subst w'
      go_wp2_with fail
      refine (h2 _).mono ?_
      rintro e w' ⟨rfl, hww⟩
      subst w'
      go_wp2_with fail
      go_ret
      exact ⟨rfl, hB⟩
    · go_enter Try.func44, Try.ntmps44
      go_wp2_with fail
      refine (h1 _).mono ?_
      rintro e w' ⟨rfl, hww⟩
      subst w'
      go_wp2_with fail
      refine (h2 _).mono ?_
      rintro e w' ⟨rfl, hww⟩
      subst w'
      go_wp2_with fail
      refine (h3 _).mono ?_
      rintro e w' ⟨rfl, hww⟩
      subst w'
      go_wp2_with fail
      go_ret
      exact ⟨rfl, hB⟩
end Go.Proofs.Ytidmmllbobimeaa
