/-
  What is proved here: Width of metric, the document's ByteWidth, TextWidth, Width.
-/
import Derived.Test.YtkhnfmdhdfpdhaaMetD
namespace Go.Proofs.Ytkhnfmdhdfpdhaa
open Go.RowKit Go.Shelf

set_option maxRecDepth 100000 in
set_option maxHeartbeats 1000000 in
theorem rbyteWidth_any (x s : Int) (hx : 0 ≤ x ∧ x < 256) (h0 : 0 ≤ s) (h1 : s ≤ 64) (w : World) : Calls Try.prog 67 #[.int .u8 x, .int .i64 s] w fun e w' => e = .returned (.int .i64 (bw x s)) ∧ w' = w := by
  have hE := rem_any x hx w
  obtain ⟨hm0, hm1⟩ := bw_mul x h0 h1
  have hq : bw x s = emI x * s / 8 := rfl
  rw [hq]
  clear hq
  generalize emI x = e at *
  have hd : (e * s).tdiv 8 = e * s / 8 := Int.tdiv_eq_ediv_of_nonneg hm0
  go_enter Try.func67, Try.ntmps67
  go_wp2_with (go_at_call 82; refine hE.mono ?_; rintro e w' ⟨rfl, hww⟩; subst w')
  go_ret
  exact ⟨rfl, rfl⟩

set_option maxRecDepth 100000 in
set_option maxHeartbeats 1000000 in
theorem rtextWidth_any (t : ByteArray) (s : Int) (h0 : 0 ≤ s) (h1 : s ≤ 64) (ht : t.size ≤ 4096) (w : World) : Calls Try.prog 68 #[.string t, .int .i64 s] w fun e w' => e = .returned (.int .i64 (widthI t s)) ∧ w' = w := by
  have hW : Hid (tw t s t.size = widthI t s) := rfl
  go_enter Try.func68, Try.ntmps68
  go_wp2
  go_loopw [5, 6] (fun n i wr => ∃ k : Nat, k ≤ t.size ∧ i = .int .i64 k ∧ n = .int .i64 (tw t s k) ∧ wr = w) (fun _ i _ => t.size - (intOf i).toNat)
  case atStart => exact ⟨0, by omega, rfl, rfl, rfl⟩
  case round =>
    obtain ⟨k, hk, rfl, rfl, rfl⟩ := hrel
    by_cases hlt : k < t.size
    · have hb := bt_eq hlt
      obtain ⟨hm0, hm1⟩ := bw_rng (bt t k) h0 h1
      have hq : Hid (tw t s (k + 1) = tw t s k + bw (bt t k) s) := rfl
      obtain ⟨hr0, hr1⟩ := tw_rng t h0 h1 k
      have hE := rbyteWidth_any (bt t k) s (bt_rng t k) h0 h1 wr
      generalize bw (bt t k) s = y at hm0 hm1 hq hE
      rw [hb] at hE
      generalize hx : tw t s k = x at hr0 hr1 hq
      clear hx hb
      go_wp2_with (go_at_call 67; refine hE.mono ?_; rintro e w' ⟨rfl, hww⟩; subst w')
      go_roundw
      case rel => exact ⟨k + 1, by omega, by simp, by rw [hq.out], by first | rfl | trivial⟩
      case measure => simp [intOf]; omega
    · obtain rfl : k = t.size := by omega
      rw [hW.out]
      clear hW
      go_wp2_with fail
      go_ret
      exact ⟨rfl, rfl⟩

end Go.Proofs.Ytkhnfmdhdfpdhaa
