/-
  What is proved here: what end, refuse, refusePlace of cluster answer, and the document's Wrong.
-/
import Derived.Test.YtkhnfmdhdfpdhaaWalkA
namespace Go.Proofs.Ytkhnfmdhdfpdhaa
open Go.RowKit Go.Shelf

theorem endN_is {t : ByteArray} {k j : Nat} (h1 : kindI (bt t k) = 1) (hj : 1 ≤ j ∧ j ≤ 3) (ha : ∀ m, 1 ≤ m → m < j → accB (bt t (k + m)) = true) (hz : j = 3 ∨ accB (bt t (k + j)) = false) : endN t k = k + j := by
  unfold endN
  rw [if_pos h1]
  have h3 : j = 1 ∨ j = 2 ∨ j = 3 := by omega
  rcases h3 with rfl | rfl | rfl
  · rw [if_neg (by rcases hz with h | h; omega; rw [h]; simp)]
  · rw [if_pos (ha 1 (by omega) (by omega)), if_neg (by rcases hz with h | h; omega; rw [h]; simp)]
  · rw [if_pos (ha 1 (by omega) (by omega)), if_pos (ha 2 (by omega) (by omega))]

set_option maxRecDepth 100000 in
set_option maxHeartbeats 1000000 in
theorem end_any (t : ByteArray) (k : Nat) (hk : k < t.size) (ht : t.size ≤ 4096) (w : World) : Calls Try.prog 107 #[.string t, .int .i64 k] w fun e w' => e = .returned (.int .i64 (endN t k : Nat)) ∧ w' = w := by
  have hb := bt_eq hk
  have hK := kind_any
  have hA := isAccent_any
  by_cases h1 : kindI (bt t k) = 1
  · have hE : Hid (∀ j, (1 ≤ j ∧ j ≤ 3) → (∀ m, 1 ≤ m → m < j → accB (bt t (k + m)) = true) → (j = 3 ∨ accB (bt t (k + j)) = false) → endN t k = k + j) := fun j a b c => endN_is h1 a b c
    rw [hb] at h1
    clear hb
    generalize hn : endN t k = n at hE ⊢
    clear hn
    go_enter Try.func107, Try.ntmps107
    go_wp2_with (go_at_call 105; refine (hK _ _).mono ?_; rintro e w' ⟨rfl, hww⟩; subst w')
    go_loopw [5] (fun i wr => ∃ j : Nat, 1 ≤ j ∧ j ≤ 3 ∧ k + j ≤ t.size ∧ i = .int .i64 (k + j : Nat) ∧ wr = w ∧ Hid (∀ m, 1 ≤ m → m < j → accB (bt t (k + m)) = true)) (fun i _ => t.size - (intOf i).toNat)
    case atStart => exact ⟨1, by omega, by omega, by omega, by simp, rfl, fun m _ _ => by omega⟩
    case round =>
      obtain ⟨j, hj1, hj3, hjs, rfl, rfl, hall⟩ := hrel
      by_cases hlt : k + j < t.size
      · have hbj := bt_eq hlt
        by_cases h3 : j = 3
        · have hn := hE.out j ⟨hj1, hj3⟩ hall.out (.inl h3)
          clear hE hall hbj
          have hd : ((k + j : Nat) : Int) - k = 3 := by omega
          go_wp2_with fail
          go_ret
          exact ⟨by first | rfl | (rw [hn]; done) | (rw [hn]; rfl), rfl⟩
        · have hd : ((k + j : Nat) : Int) - k ≤ 2 := by omega
          cases hv : accB (bt t (k + j))
          · have hn := hE.out j ⟨hj1, hj3⟩ hall.out (.inr hv)
            rw [hbj] at hv
            clear hE hall hbj
            go_wp2_with (go_at_call 112; refine (hA _ _).mono ?_; rw [hv]; rintro e w' ⟨rfl, hww⟩; subst w')
            go_ret
            exact ⟨by first | rfl | (rw [hn]; done) | (rw [hn]; rfl), rfl⟩
          · have hyes : Hid (∀ m, 1 ≤ m → m < j + 1 → accB (bt t (k + m)) = true) := fun m h1 h2 => by
              by_cases h : m < j
              · exact hall.out m h1 h
              · obtain rfl : m = j := by omega
                exact hv
            rw [hbj] at hv
            clear hE hall hbj
            go_wp2_with (go_at_call 112; refine (hA _ _).mono ?_; rw [hv]; rintro e w' ⟨rfl, hww⟩; subst w')
            go_roundw
            case rel => exact ⟨j + 1, by omega, by omega, by omega, by simp; omega, by first | rfl | trivial, hyes⟩
            case measure => simp [intOf]; omega
      · have hv : accB (bt t (k + j)) = false := by rw [bt_no hlt]; decide
        have hn := hE.out j ⟨hj1, hj3⟩ hall.out (.inr hv)
        clear hE hall hv
        go_wp2_with fail
        go_ret
        exact ⟨by first | rfl | (rw [hn]; done) | (rw [hn]; rfl), rfl⟩
  · have e1 : endN t k = k + 1 := by unfold endN; rw [if_neg h1]
    rw [e1]
    rw [hb] at h1
    go_enter Try.func107, Try.ntmps107
    go_wp2_with (go_at_call 105; refine (hK _ _).mono ?_; rintro e w' ⟨rfl, hww⟩; subst w')
    go_ret
    exact ⟨rfl, rfl⟩

set_option maxRecDepth 100000 in
set_option maxHeartbeats 1000000 in
theorem refuse_any (t : ByteArray) (w : World) : Calls Try.prog 100 #[.string t] w fun e w' => e = .returned (.int .i64 (wrongI t)) ∧ w' = w := by
  have hK := kind_any
  by_cases hl : 4096 < t.size
  · rw [wrong_long hl]
    go_enter Try.func100, Try.ntmps100
    go_wp2
    go_ret
    exact ⟨rfl, rfl⟩
  · have hB : Hid (∀ k, k < t.size → kindI (bt t k) = 0 → wrongI t = 4) := fun k hk h0 => wrong_byte hl hk h0
    have hO : Hid ((∀ k, k < t.size → kindI (bt t k) ≠ 0) → wrongI t = 0) := fun h => wrong_ok hl h
    generalize wrongI t = n at hB hO ⊢
    go_enter Try.func100, Try.ntmps100
    go_wp2
    go_loopw [9] (fun i wr => ∃ k : Nat, k ≤ t.size ∧ i = .int .i64 k ∧ wr = w ∧ Hid (∀ j, j < k → kindI (bt t j) ≠ 0)) (fun i _ => t.size - (intOf i).toNat)
    case atStart => exact ⟨0, by omega, rfl, rfl, fun j hj => by omega⟩
    case round =>
      obtain ⟨k, hk, rfl, rfl, hall⟩ := hrel
      by_cases hlt : k < t.size
      · have hb := bt_eq hlt
        by_cases hv : kindI (bt t k) = 0
        · have hn := hB.out k hlt hv
          rw [hb] at hv
          clear hB hO hall hb
          go_wp2_with (go_at_call 105; refine (hK _ _).mono ?_; rw [hv]; rintro e w' ⟨rfl, hww⟩; subst w')
          go_ret
          exact ⟨by first | rfl | (rw [hn]; done) | (rw [hn]; rfl), rfl⟩
        · have hyes : Hid (∀ j, j < k + 1 → kindI (bt t j) ≠ 0) := fun j hj => by
            by_cases h : j < k
            · exact hall.out j h
            · obtain rfl : j = k := by omega
              exact hv
          rw [hb] at hv
          clear hB hO hall hb
          go_wp2_with (go_at_call 105; refine (hK _ _).mono ?_; rintro e w' ⟨rfl, hww⟩; subst w')
          go_roundw
          case rel => exact ⟨k + 1, by omega, by simp, by first | rfl | trivial, hyes⟩
          case measure => simp [intOf]; omega
      · have hn := hO.out (fun j hj => hall.out j (by omega))
        clear hB hO hall
        go_wp2_with fail
        go_ret
        exact ⟨by first | rfl | (rw [hn]; done) | (rw [hn]; rfl), rfl⟩

set_option maxRecDepth 100000 in
set_option maxHeartbeats 1000000 in
theorem wrong_any (t : ByteArray) (w : World) : Calls Try.prog 76 #[.string t] w fun e w' => e = .returned (.int .i64 (wrongI t)) ∧ w' = w := by
  have hK := rkind_any
  by_cases hl : 4096 < t.size
  · rw [wrong_long hl]
    go_enter Try.func76, Try.ntmps76
    go_wp2
    go_ret
    exact ⟨rfl, rfl⟩
  · have hB : Hid (∀ k, k < t.size → kindI (bt t k) = 0 → wrongI t = 4) := fun k hk h0 => wrong_byte hl hk h0
    have hO : Hid ((∀ k, k < t.size → kindI (bt t k) ≠ 0) → wrongI t = 0) := fun h => wrong_ok hl h
    generalize wrongI t = n at hB hO ⊢
    go_enter Try.func76, Try.ntmps76
    go_wp2
    go_loopw [3] (fun i wr => ∃ k : Nat, k ≤ t.size ∧ i = .int .i64 k ∧ wr = w ∧ Hid (∀ j, j < k → kindI (bt t j) ≠ 0)) (fun i _ => t.size - (intOf i).toNat)
    case atStart => exact ⟨0, by omega, rfl, rfl, fun j hj => by omega⟩
    case round =>
      obtain ⟨k, hk, rfl, rfl, hall⟩ := hrel
      by_cases hlt : k < t.size
      · have hb := bt_eq hlt
        by_cases hv : kindI (bt t k) = 0
        · have hn := hB.out k hlt hv
          rw [hb] at hv
          clear hB hO hall hb
          go_wp2_with (go_at_call 80; refine (hK _ _).mono ?_; rw [hv]; rintro e w' ⟨rfl, hww⟩; subst w')
          go_ret
          exact ⟨by first | rfl | (rw [hn]; done) | (rw [hn]; rfl), rfl⟩
        · have hyes : Hid (∀ j, j < k + 1 → kindI (bt t j) ≠ 0) := fun j hj => by
            by_cases h : j < k
            · exact hall.out j h
            · obtain rfl : j = k := by omega
              exact hv
          rw [hb] at hv
          clear hB hO hall hb
          go_wp2_with (go_at_call 80; refine (hK _ _).mono ?_; rintro e w' ⟨rfl, hww⟩; subst w')
          go_roundw
          case rel => exact ⟨k + 1, by omega, by simp, by first | rfl | trivial, hyes⟩
          case measure => simp [intOf]; omega
      · have hn := hO.out (fun j hj => hall.out j (by omega))
        clear hB hO hall
        go_wp2_with fail
        go_ret
        exact ⟨by first | rfl | (rw [hn]; done) | (rw [hn]; rfl), rfl⟩

end Go.Proofs.Ytkhnfmdhdfpdhaa
