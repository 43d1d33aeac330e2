/-
  What is proved here: awake answers true.
-/
import Derived.Test.YtidmmllbobimeaaExC
import Derived.Test.YtidmmllbobimeaaExA
namespace Go.Proofs.Ytidmmllbobimeaa
open Go.RowKit Go.Shelf

def exM : List Ms := [⟨0, 1, 1, 16, 12, 0⟩, ⟨1, 2, 1, 16, 12, -2⟩]
theorem exP_mss (N : Nat) : mss (exP N) = exM := by rfl
theorem exP_chk (N : Nat) : chkI (exP N) = 0 := by
  have e : chkI (exP N) = chkI (exP 0) := rfl
  rw [e]
  decide +kernel
theorem exP_num (N : Nat) : num (exP N).t = 2 := by rfl

set_option maxRecDepth 100000 in
set_option maxHeartbeats 2000000 in
theorem exMass (N : Nat) (w : World) (hA : PaAt w (exP N)) : Calls Try.prog 17 #[paV (exP N)] w fun e w' => ∃ v, e = .returned (.tuple #[v, .int .i64 0]) ∧ RecAt 6 msL w' v exM ∧ Below w.heap.size w w' := by
  refine (masses_any _ w hA).mono ?_
  rintro e w' ⟨⟨v, rfl, hv⟩, hb⟩
  rw [exP_chk] at hv ⊢
  rcases hv with ⟨h, _⟩ | ⟨_, h⟩
  · exact absurd rfl h
  · rw [exP_mss, exP_num] at h
    exact ⟨v, rfl, rec_of_row msL_len rfl h, hb⟩

set_option maxRecDepth 100000 in
set_option maxHeartbeats 2000000 in
theorem awake_any (w : World) : Calls Try.prog 15 #[] w fun e w' => e = .returned (.bool true) ∧ Below w.heap.size w w' := by
  go_enter Try.func15, Try.ntmps15
  go_wp2_with fail
  refine (example_any _).mono ?_
  rintro e w1 ⟨N, rfl, hA, hb1⟩
  go_wp2_with fail
  refine (exMass N w1 hA).mono ?_
  rintro e w2 ⟨v, rfl, hR, hb2⟩
  have hB2 := hb1.trans (hb2.mono hb1.size)
  go_wp2_with fail
  have hn := rec_new (k := 6) msL_len w2 43 exM
  have hb3 := (Below.refl w2.heap.size w2).alloc (Nat.le_refl _) (.cells (exM.flatMap msL).toArray 43)
  refine (same_yes v _ exM _ (by decide) (hR.below hb3 (Nat.le_refl _)) hn).mono ?_
  rintro e w3 ⟨rfl, hb4⟩
  have hB3 := hB2.trans (hb3.mono hB2.size)
  have hB4 := hB3.trans (hb4.mono hB3.size)
  go_wp2_with fail
  go_ret
  exact ⟨rfl, hB4⟩
end Go.Proofs.Ytidmmllbobimeaa
