/-
  What is proved here: what last of the statements answers; lists of lists of settings in memory.
-/
import Derived.Test.YtifkelpgpdgenaaNearMath
namespace Go.Proofs.Ytifkelpgpdgenaa
open Go.RowKit Go.Shelf

set_option maxRecDepth 100000 in
set_option maxHeartbeats 2000000 in
theorem last_any (v : Value) (L : List (Int × Int)) (n : Int) (w : World) (hS : SetsAt w v L) :
    Calls Try.prog 32 #[v, .int .i64 n] w fun e w' => e = .returned (.tuple #[.int .i64 ((lastL L n).getD 0), .bool (lastL L n).isSome]) ∧ w' = w := by
  obtain ⟨a, cap, rfl, h2⟩ := hS.ex
  have hlen := hS.few
  clear hS
  go_enter Try.func32, Try.ntmps32
  go_wp2_with fail
  go_loopw [6] (fun i wr => ∃ k : Nat, k ≤ L.length ∧ i = .int .i64 ((k : Int) - 1) ∧ wr = w ∧ Hid (lastL (L.take k) n = lastL L n)) (fun i _ => (intOf i + 1).toNat)
  case atStart => exact ⟨L.length, Nat.le_refl _, by simp, rfl, by rw [List.take_length]; exact rfl⟩
  case round =>
    obtain ⟨k, hk, rfl, rfl, hl⟩ := hrel
    cases k with
    | zero =>
      have h0 : lastL L n = none := hl.out.symm
      clear hl
      go_wp2_with fail
      go_ret2
      exact ⟨by rw [h0]; rfl, rfl⟩
    | succ j =>
      have hlt : j < L.length := by omega
      rcases h2 with h2 | ⟨b, o, rfl, hbl, hc⟩
      · rw [h2] at hlt; simp at hlt
      · obtain ⟨c0, c1⟩ := hc j hlt
        have hj : ((j + 1 : Nat) : Int) - 1 = (j : Int) := by omega
        rw [hj]
        have hit : Hid _ := lastL_hit (n := n) hlt
        have miss : Hid _ := lastL_miss (n := n) hlt
        clear hc hj
        generalize L[j].1 = x at *
        generalize L[j].2 = y at *
        by_cases hx : x = n
        · have h5 : lastL L n = some y := by rw [← hl.out]; exact hit.out hx
          subst hx
          clear hl hit miss
          go_wp2_with fail
          go_ret2
          exact ⟨by rw [h5]; rfl, rfl⟩
        · have h5 : Hid (lastL (L.take j) n = lastL L n) := by rw [← hl.out]; exact (miss.out hx).symm
          have hx' : (x == n) = false := by simpa using hx
          clear hl hit miss
          go_wp2_with fail
          go_roundw
          case rel => exact ⟨j, by omega, rfl, by first | rfl | trivial, h5⟩
          case measure => simp [intOf]

/-- A list of lists, in memory. -/
structure LLAt (W : World) (v : Value) (Ls : Lst) : Prop where
  ex : ∃ a cap, v = .slice a Ls.length cap ∧ (Ls = [] ∨ ∃ b o, a = some ⟨b, o, none⟩ ∧ b < W.heap.size ∧ ∀ (i : Nat), i < Ls.length → ∃ x c, W.cell? ⟨b, o + i, none⟩ = some (.slice x (Ls.getD i []).length c) ∧ SetsAt W (.slice x (Ls.getD i []).length c) (Ls.getD i []))
  few : Ls.length ≤ 9223372036854775807
end Go.Proofs.Ytifkelpgpdgenaa
