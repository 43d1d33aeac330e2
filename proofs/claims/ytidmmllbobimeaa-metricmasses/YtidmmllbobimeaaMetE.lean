/-
  What is proved here: Width of metric, the document's ByteWidth, TextWidth, Width.
-/
import Derived.Test.YtidmmllbobimeaaMetD
namespace Go.Proofs.Ytidmmllbobimeaa
open Go.RowKit Go.Shelf

set_option maxRecDepth 100000 in
set_option maxHeartbeats 1000000 in
theorem rbyteWidth_any (x s : Int) (hx : 0 ≤ x ∧ x < 256) (h0 : 0 ≤ s) (h1 : s ≤ 64) (w : World) : Calls Try.prog 42 #[.int .u8 x, .int .i64 s] w fun e w' => e = .returned (.int .i64 (bw x s)) ∧ w' = w := by
  have hE := rem_any x hx w
  obtain ⟨hm0, hm1⟩ := bw_mul x h0 h1
  have hq : bw x s = emI x * s / 8 := rfl
  rw [hq]
  clear hq
  generalize emI x = e at *
  have hd : (e * s).tdiv 8 = e * s / 8 := Int.tdiv_eq_ediv_of_nonneg hm0
  go_enter Try.func42, Try.ntmps42
  go_wp2_with (go_at_call 14; refine hE.mono ?_; rintro e w' ⟨rfl, hww⟩; subst w')
  go_ret
  exact ⟨rfl, rfl⟩

set_option maxRecDepth 100000 in
set_option maxHeartbeats 1000000 in
theorem rtextWidth_any (t : ByteArray) (s : Int) (h0 : 0 ≤ s) (h1 : s ≤ 64) (ht : t.size ≤ 4096) (w : World) : Calls Try.prog 30 #[.string t, .int .i64 s] w fun e w' => e = .returned (.int .i64 (widthI t s)) ∧ w' = w := by
  have hW : Hid (tw t s t.size = widthI t s) := rfl
  go_enter Try.func30, Try.ntmps30
  go_wp2
  go_loopw [5, 6] (fun n i wr => ∃ k : Nat, k ≤ t.size ∧ i = .int .i64 k ∧ n = .int .i64 (tw t s k) ∧ wr = w) (fun _ i _ => t.size - (intOf i).toNat)
  case atStart => exact ⟨0, by omega, rfl, rfl, rfl⟩
  case round =>
    obtain ⟨k, hk, rfl, rfl, rfl⟩ := hrel
    by_cases hlt : k < t.size
    · have hb := bt_eq hlt
      obtain ⟨hm0, hm1⟩ := bw_rng (bt t k) h0 h1
      have hq : Hid (tw t s (k + 1) = tw t s k + bw (bt t k) s) := rfl
      obtain ⟨hr0, hr1⟩ := tw_rng t h0 h1 k
      have hE := rbyteWidth_any (bt t k) s (bt_rng t k) h0 h1 wr
      generalize bw (bt t k) s = y at hm0 hm1 hq hE
      rw [hb] at hE
      generalize hx : tw t s k = x at hr0 hr1 hq
      clear hx hb
      go_wp2_with (go_at_call 42; refine hE.mono ?_; rintro e w' ⟨rfl, hww⟩; subst w')
      go_roundw
      case rel => exact ⟨k + 1, by omega, by simp, by rw [hq.out], by first | rfl | trivial⟩
      case measure => simp [intOf]; omega
    · obtain rfl : k = t.size := by omega
      rw [hW.out]
      clear hW
      go_wp2_with fail
      go_ret
      exact ⟨rfl, rfl⟩

/-- What Width answers. -/
def wErr (t : ByteArray) (s : Int) : Int := if 1 ≤ s ∧ s ≤ 64 then (if 4096 < t.size then 3 else 0) else 5
def wVal (t : ByteArray) (s : Int) : Int := if wErr t s = 0 then widthI t s else 0
theorem wErr_cases (t : ByteArray) (s : Int) : (wErr t s = 5 ∧ wVal t s = 0 ∧ (s < 1 ∨ 64 < s)) ∨ (wErr t s = 3 ∧ wVal t s = 0 ∧ 1 ≤ s ∧ s ≤ 64 ∧ 4096 < t.size) ∨ (wErr t s = 0 ∧ wVal t s = widthI t s ∧ 1 ≤ s ∧ s ≤ 64 ∧ t.size ≤ 4096) := by
  unfold wVal
  by_cases h : 1 ≤ s ∧ s ≤ 64
  · by_cases h2 : 4096 < t.size
    · have e : wErr t s = 3 := by unfold wErr; rw [if_pos h, if_pos h2]
      rw [e]; exact .inr (.inl ⟨rfl, rfl, h.1, h.2, h2⟩)
    · have e : wErr t s = 0 := by unfold wErr; rw [if_pos h, if_neg h2]
      rw [e]; exact .inr (.inr ⟨rfl, rfl, h.1, h.2, by omega⟩)
  · have e : wErr t s = 5 := by unfold wErr; rw [if_neg h]
    rw [e]; exact .inl ⟨rfl, rfl, by omega⟩

set_option maxRecDepth 100000 in
set_option maxHeartbeats 1000000 in
theorem Width_any (t : ByteArray) (s : Int) (w : World) : Calls Try.prog 9 #[.string t, .int .i64 s] w fun e w' => e = .returned (.tuple #[.int .i64 (wVal t s), .int .i64 (wErr t s)]) ∧ w' = w := by
  rcases wErr_cases t s with ⟨e1, e2, h⟩ | ⟨e1, e2, h1, h2, h3⟩ | ⟨e1, e2, h1, h2, h3⟩
  · rw [e1, e2]
    clear e1 e2
    rcases h with h | h
    all_goals
      go_enter Try.func9, Try.ntmps9
      go_wp2
      go_ret2
      exact ⟨rfl, rfl⟩
  · rw [e1, e2]
    clear e1 e2
    go_enter Try.func9, Try.ntmps9
    go_wp2
    go_ret2
    exact ⟨rfl, rfl⟩
  · rw [e1, e2]
    have hE := width_any t s (by omega) h2 h3 w
    clear e1 e2
    go_enter Try.func9, Try.ntmps9
    go_wp2_with (go_at_call 29; refine hE.mono ?_; rintro e w' ⟨rfl, hww⟩; subst w')
    go_ret2
    exact ⟨rfl, rfl⟩

set_option maxRecDepth 100000 in
set_option maxHeartbeats 1000000 in
theorem rWidth_any (t : ByteArray) (s : Int) (w : World) : Calls Try.prog 10 #[.string t, .int .i64 s] w fun e w' => e = .returned (.tuple #[.int .i64 (wVal t s), .int .i64 (wErr t s)]) ∧ w' = w := by
  rcases wErr_cases t s with ⟨e1, e2, h⟩ | ⟨e1, e2, h1, h2, h3⟩ | ⟨e1, e2, h1, h2, h3⟩
  · rw [e1, e2]
    clear e1 e2
    rcases h with h | h
    all_goals
      go_enter Try.func10, Try.ntmps10
      go_wp2
      go_ret2
      exact ⟨rfl, rfl⟩
  · rw [e1, e2]
    clear e1 e2
    go_enter Try.func10, Try.ntmps10
    go_wp2
    go_ret2
    exact ⟨rfl, rfl⟩
  · rw [e1, e2]
    have hE := rtextWidth_any t s (by omega) h2 h3 w
    clear e1 e2
    go_enter Try.func10, Try.ntmps10
    go_wp2_with (go_at_call 30; refine hE.mono ?_; rintro e w' ⟨rfl, hww⟩; subst w')
    go_ret2
    exact ⟨rfl, rfl⟩

end Go.Proofs.Ytidmmllbobimeaa
