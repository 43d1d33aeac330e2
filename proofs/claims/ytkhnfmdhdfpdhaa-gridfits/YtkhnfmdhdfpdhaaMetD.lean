/-
  What is proved here: how wide bytes are, as Width of metric and the document's Width tell it.
-/
import Derived.Test.YtkhnfmdhdfpdhaaMetC
namespace Go.Proofs.Ytkhnfmdhdfpdhaa
open Go.RowKit Go.Shelf

/-- The width of a byte of a size. -/
def bw (x s : Int) : Int := (emI x * s) / 8
theorem bw_rng (x : Int) {s : Int} (h0 : 0 ≤ s) (h1 : s ≤ 64) : 0 ≤ bw x s ∧ bw x s ≤ 64 := by
  have he := emI_rng x
  unfold bw
  have a : 0 ≤ emI x * s := Int.mul_nonneg he.1 h0
  have b : emI x * s ≤ 8 * 64 := Int.mul_le_mul he.2 h1 h0 (by omega)
  omega
theorem bw_mul (x : Int) {s : Int} (h0 : 0 ≤ s) (h1 : s ≤ 64) : 0 ≤ emI x * s ∧ emI x * s ≤ 512 := by
  have he := emI_rng x
  have a : 0 ≤ emI x * s := Int.mul_nonneg he.1 h0
  have b : emI x * s ≤ 8 * 64 := Int.mul_le_mul he.2 h1 h0 (by omega)
  omega
/-- The widths of the first bytes of a text. -/
def tw (t : ByteArray) (s : Int) : Nat → Int
  | 0 => 0
  | k + 1 => tw t s k + bw (bt t k) s
theorem tw_rng (t : ByteArray) {s : Int} (h0 : 0 ≤ s) (h1 : s ≤ 64) : ∀ k, 0 ≤ tw t s k ∧ tw t s k ≤ 64 * (k : Int)
  | 0 => by simp [tw]
  | k + 1 => by
    have := tw_rng t h0 h1 k
    have := bw_rng (bt t k) h0 h1
    show 0 ≤ tw t s k + bw (bt t k) s ∧ tw t s k + bw (bt t k) s ≤ _
    omega
def widthI (t : ByteArray) (s : Int) : Int := tw t s t.size

set_option maxRecDepth 100000 in
set_option maxHeartbeats 1000000 in
theorem width_any (t : ByteArray) (s : Int) (h0 : 0 ≤ s) (h1 : s ≤ 64) (ht : t.size ≤ 4096) (w : World) : Calls Try.prog 93 #[.string t, .int .i64 s] w fun e w' => e = .returned (.int .i64 (widthI t s)) ∧ w' = w := by
  have hW : Hid (tw t s t.size = widthI t s) := rfl
  go_enter Try.func93, Try.ntmps93
  go_wp2
  go_loopw [5, 9] (fun n i wr => ∃ k : Nat, k ≤ t.size ∧ i = .int .i64 k ∧ n = .int .i64 (tw t s k) ∧ wr = w) (fun _ i _ => t.size - (intOf i).toNat)
  case atStart => exact ⟨0, by omega, rfl, rfl, rfl⟩
  case round =>
    obtain ⟨k, hk, rfl, rfl, rfl⟩ := hrel
    by_cases hlt : k < t.size
    · have hb := bt_eq hlt
      have hm := bw_mul (bt t k) h0 h1
      have hq : Hid (tw t s (k + 1) = tw t s k + emI (bt t k) * s / 8) := rfl
      have hr := tw_rng t h0 h1 k
      have hE := em_any (bt t k) wr
      rw [hb] at hm hq hE
      generalize emI ((t[k]'hlt).toNat : Int) = e at hm hq hE
      generalize hx : tw t s k = x at hr hq
      clear hx hb
      obtain ⟨hm0, hm1⟩ := hm
      obtain ⟨hr0, hr1⟩ := hr
      have hd : (e * s).tdiv 8 = e * s / 8 := Int.tdiv_eq_ediv_of_nonneg hm0
      go_wp2_with (go_at_call 92; refine hE.mono ?_; rintro e w' ⟨rfl, hww⟩; subst w')
      go_roundw
      case rel => exact ⟨k + 1, by omega, by simp, by rw [hq.out], by first | rfl | trivial⟩
      case measure => simp [intOf]; omega
    · obtain rfl : k = t.size := by omega
      rw [hW.out]
      clear hW
      go_wp2_with fail
      go_ret
      exact ⟨rfl, rfl⟩

end Go.Proofs.Ytkhnfmdhdfpdhaa
