/-
  What is proved here: widths of runs add up; the masses that Masses tells may be; Pick; the walk of MetricJoins.
-/
import Derived.Test.YtkhnfmdhdfpdhaaExB
import Derived.Test.YtkhnfmdhdfpdhaaMassW
import Derived.Test.YtkhnfmdhdfpdhaaNatA
import Derived.Test.YtkhnfmdhdfpdhaaMetG
import Derived.Test.YtkhnfmdhdfpdhaaReg
import Derived.Test.YtkhnfmdhdfpdhaaMassMath
namespace Go.Proofs.Ytkhnfmdhdfpdhaa
open Go.RowKit Go.Shelf

theorem run_join' (l : List Ms) (a m : Nat) (hm : 0 < m) : ∀ n, runN l a (m + n) = runN l a m + runN l (a + m) n + (if 0 < n then (l.getD (a + m) ms0).q else 0)
  | 0 => by simp [runN]
  | n + 1 => by
    have ih := run_join' l a m hm n
    show runN l a (m + n) + (l.getD (a + (m + n)) ms0).w + (if 0 < m + n then (l.getD (a + (m + n)) ms0).q else 0) = runN l a m + (runN l (a + m) n + (l.getD (a + m + n) ms0).w + (if 0 < n then (l.getD (a + m + n) ms0).q else 0)) + (if 0 < n + 1 then (l.getD (a + m) ms0).q else 0)
    rw [ih, show a + (m + n) = a + m + n by omega, if_pos (show 0 < m + n by omega), if_pos (show 0 < n + 1 by omega)]
    by_cases hn : 0 < n
    · rw [if_pos hn, if_pos hn]; omega
    · obtain rfl : n = 0 := by omega
      rw [if_neg (by omega), if_neg (by omega)]
      simp only [runN, Nat.add_zero]; omega
theorem run_join (l : List Ms) (a m n : Nat) : runN l a (m + n) = runN l a m + runN l (a + m) n + (if 0 < m ∧ 0 < n then (l.getD (a + m) ms0).q else 0) := by
  by_cases hm : 0 < m
  · rw [run_join' l a m hm n]
    by_cases hn : 0 < n
    · rw [if_pos hn, if_pos ⟨hm, hn⟩]
    · rw [if_neg hn, if_neg (fun h => hn h.2)]
  · obtain rfl : m = 0 := by omega
    rw [if_neg (fun h => hm h.1), Nat.zero_add, Nat.add_zero]
    simp [runN]

theorem GoodP.mass {a : Pa} (h : GoodP a) {i : Nat} (hi : i < num a.t) : (0 ≤ (msI a i).w ∧ (msI a i).w ≤ 4095) ∧ (-64 ≤ (msI a i).q ∧ (msI a i).q ≤ 0) := by
  have hf := h.fok hi
  refine ⟨?_, ?_⟩
  · show 0 ≤ wdI (fc a i) (mkAt a i) ∧ wdI (fc a i) (mkAt a i) ≤ 4095
    unfold wdI
    split
    · have := bw_rng (fc a i).b hf.s.1 hf.s.2
      have := hf.t
      omega
    · split
      · rename_i h7
        obtain ⟨hr, hm1, hm2⟩ := h.mark hi h7
        rw [hm1]
        have := tw_rng a.ms[rI a.t i] hf.s.1 hf.s.2 a.ms[rI a.t i].size
        unfold widthI
        omega
      · omega
  · show -64 ≤ meetI (pf a i) (fc a i) ∧ meetI (pf a i) (fc a i) ≤ 0
    unfold meetI
    split
    · have := kernI_rng (pf a i).b (fc a i).b hf.s.1 hf.s.2
      omega
    · omega
theorem GoodP.all {a : Pa} (h : GoodP a) : (mss a).all mOk = true := all_yes (fun k hk => by
  rw [mss_get]
  unfold mOk
  exact decide_eq_true (h.mass (by rwa [mss_len] at hk)))

end Go.Proofs.Ytkhnfmdhdfpdhaa
