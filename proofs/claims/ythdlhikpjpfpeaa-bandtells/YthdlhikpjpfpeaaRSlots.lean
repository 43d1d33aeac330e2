/-
  What is proved here: which slots lines have, as the document tells it.
-/
import Derived.Test.YthdlhikpjpfpeaaRSlot
import Derived.Test.YthdlhikpjpfpeaaSlots
namespace Go.Proofs.Ythdlhikpjpfpeaa
open Go.RowKit Go.Shelf

theorem info43i : (Try.prog.info? 43).map (fun i => (i.zero, i.size, i.bytes)) = some (some (.agg #[.int .i64 0, .int .i64 0]), 2, 16) := by kernel_rfl
theorem src_one (w : World) (q : Sl) : Srcs (w.alloc (.cells (slC q) 43)) 2 (.slice (some ⟨w.heap.size, 0, none⟩) 1 1) 1 (slL q) := by
  have := rec_srcs slL_len slL_one (by decide) (rec_new slL_len w 43 [q])
  simpa [slC, slL] using this
set_option maxRecDepth 100000 in
set_option maxHeartbeats 600000 in
theorem slots8_ok (v : Value) (l : List Bd) (n y p m : Int) (h0 : ckI l = 0) (hin : inB n = true ∧ inB y = true ∧ (1 ≤ p ∧ p ≤ 255) ∧ (0 ≤ m ∧ m ≤ 256)) (w : World) (hS : RecAt 4 bdL w v l) :
    Calls Try.prog 8 #[.int .i64 n, v, .int .i64 y, .int .i64 p, .int .i64 m] w (SlEnd n l y p m w) := by
  obtain ⟨d1, d2, ⟨p1, p2⟩, ⟨m1, m2⟩⟩ := hin
  have he := slsE_in h0 ⟨d1, d2, ⟨p1, p2⟩, ⟨m1, m2⟩⟩
  have hok := ckI_ok h0
  have hn := within_any n
  have hy := within_any y
  rw [d1] at hn
  rw [d2] at hy
  have hy' := inB_get d2
  have hsl : Hid (∀ (k : Nat) W, k < 256 → Below w.heap.size w W → Calls Try.prog 23 #[.int .i64 n, v, .int .i64 (y + (k : Nat) * p), .int .i64 p] W fun e w' => e = .returned (.agg #[.int .i64 (slF n l y p k).x, .int .i64 (slF n l y p k).w]) ∧ Below W.heap.size W w') := fun k W hk hW => by
    have := mul_rng (k := (k : Nat)) (p := p) (by omega) (by omega) p1 p2
    exact rslot_any v l n (y + (k : Nat) * p) p hok d1 (by omega) ⟨p1, p2⟩ W (hS.below hW (Nat.le_refl _))
  have hck : ∀ W, Below w.heap.size w W → Calls Try.prog 12 #[v] W fun e w' => e = .returned (.int .i64 0) ∧ Below W.heap.size W w' := fun W hW => by
    have := rcheck_any v l (by have := hok.1; omega) W (hS.below hW (Nat.le_refl _))
    rwa [h0] at this
  obtain ⟨a, cap, rfl, -⟩ := hS.ex
  obtain ⟨N, rfl⟩ : ∃ N : Nat, m = (N : Nat) := ⟨m.toNat, by omega⟩
  have hN : N ≤ 256 := by omega
  have hend : Hid (∀ W u, Below w.heap.size w W → RecAt 2 slL W u ((List.range N).map (slF n l y p)) → SlEnd n l y p N w (.returned (.tuple #[u, .int .i64 0])) W) := fun W u hW hu => ⟨hW, u, by rw [he], by rw [slsL_ok he]; exact hu⟩
  have hmk : ∀ k : Nat, k < 256 → 0 ≤ (k : Int) * p ∧ (k : Int) * p ≤ 65025 := fun k hk => mul_rng (by omega) (by omega) p1 p2
  obtain ⟨y1, y2⟩ := hy'
  clear hS hok h0 he d1 d2
  generalize SlEnd n l y p N w = E at *
  generalize slF n l y p = F at *
  go_enter Try.func8, Try.ntmps8
  obtain ⟨i0, hi, hz0, hz1, hz2⟩ := info_parts info43i
  go_wp2_with (first | (go_at_call 12; refine (hck _ (Below.refl _ _)).mono ?_; rintro e w1 ⟨rfl, b1⟩; clear hck) | (go_at_call 22; (first | with_reducible refine (hn _).mono ?_ | with_reducible refine (hy _).mono ?_); rintro e w' ⟨rfl, hw⟩; subst w'))
  clear hn hy
  go_loopw [13, 14] (fun u i wr => ∃ k : Nat, k ≤ N ∧ i = .int .i64 k ∧ Hid (Below w.heap.size w wr ∧ wr.ownsRow w.heap.size 43 2 u k (((List.range k).map F).flatMap slL))) (fun _ i _ => N - (intOf i).toNat)
  case atStart => exact ⟨0, by omega, rfl, b1, World.ownsRow_nil _ _ _ _⟩
  case round =>
    obtain ⟨k, hk, rfl, hI⟩ := hrel
    by_cases hlt : k < N
    · have hlt' : (k : Int) < (N : Int) := by omega
      obtain ⟨q1, q2⟩ := hmk k (by omega)
      have hs1 : Hid (Calls Try.prog 23 #[.int .i64 n, .slice a l.length cap, .int .i64 (y + (k : Nat) * p), .int .i64 p] wr fun e w' => e = .returned (.agg #[.int .i64 (F k).x, .int .i64 (F k).w]) ∧ Below wr.heap.size wr w') := hsl.out k wr (by omega) hI.out.1
      have hrow1 : Hid (((List.range (k + 1)).map F).flatMap slL = ((List.range k).map F).flatMap slL ++ slL (F k)) := by
        show _ = _
        rw [List.range_succ, List.map_append, List.flatMap_append]; simp
      clear hsl hend hmk
      generalize hFk : F k = x at *
      go_wp2_with (first | (go_at_call 23; refine hs1.out.mono ?_; rintro e w5 ⟨rfl, hb5⟩; have hI5 : Hid (Below w.heap.size w w5 ∧ w5.ownsRow w.heap.size 43 2 u13 k (((List.range k).map F).flatMap slL)) := ⟨hI.out.1.trans (hb5.mono hI.out.1.size), ownsRow_below hI.out.2 hb5⟩; clear hb5 hI hs1) | (at_builtin; refine wpList_append_any _ rfl _ _ 23 rfl w.heap.size 43 i0 _ 2 16 Try.underlying23 hi hz0 hz1 hz2 rfl (by decide) _ k (((List.range k).map F).flatMap slL) rfl (by exact hI5.out.2.alloc _) 1 _ _ rfl (by exact src_one w5 x) (by unfold maxLen; omega) (by omega) (by have := hI5.out.1.size; simp; omega) ?_; intro v' w6 hown hgrow))
      have hB6 : Below w.heap.size w w6 := below_grown (hI5.out.1.alloc hI5.out.1.size _) (hI5.out.2.alloc _) (Nat.le_refl _) (Nat.le_refl _) hgrow
      rw [← hrow1.out] at hown
      have hI6 : Hid (Below w.heap.size w w6 ∧ w6.ownsRow w.heap.size 43 2 v' (k + 1) (((List.range (k + 1)).map F).flatMap slL)) := ⟨hB6, hown⟩
      clear hB6 hown hgrow hI5 hrow1
      go_wp2_with fail
      go_roundw
      case rel => exact ⟨k + 1, by omega, by simp, hI6⟩
      case measure => simp [intOf]; omega
    · obtain rfl : k = N := by omega
      have hge : ¬ (k : Int) < (k : Int) := by omega
      clear hsl hmk
      go_wp2_with fail
      exact hend.out _ _ hI.out.1 (rec_of_row slL_len (by simp) hI.out.2)
set_option maxRecDepth 100000 in
set_option maxHeartbeats 600000 in
theorem rslots_any (v : Value) (l : List Bd) (n y p m : Int) (hl : l.length ≤ 9223372036854775807) (w : World) (hS : RecAt 4 bdL w v l) :
    Calls Try.prog 8 #[.int .i64 n, v, .int .i64 y, .int .i64 p, .int .i64 m] w (SlEnd n l y p m w) := by
  have hck : ∀ W, Below w.heap.size w W → Calls Try.prog 12 #[v] W fun e w' => e = .returned (.int .i64 (ckI l)) ∧ Below W.heap.size W w' := fun W hW => rcheck_any v l hl W (hS.below hW (Nat.le_refl _))
  have hn := within_any n
  have hy := within_any y
  obtain ⟨a, cap, rfl, -⟩ := hS.ex
  by_cases h0 : ckI l = 0
  · rw [h0] at hck
    by_cases hin : inB n = true ∧ inB y = true ∧ (1 ≤ p ∧ p ≤ 255) ∧ (0 ≤ m ∧ m ≤ 256)
    · exact slots8_ok _ l n y p m h0 hin w hS
    · have he := slsE_out h0 hin
      have hend : Hid (∀ W, Below w.heap.size w W → SlEnd n l y p m w (.returned (.tuple #[.slice none 0 0, .int .i64 5])) W) := fun W hW => slEnd_err (by omega) hW he.symm
      clear hS h0 he
      generalize SlEnd n l y p m w = E at *
      rcases d1 : inB n with _ | _
      · rw [d1] at hn
        clear hin d1
        go_enter Try.func8, Try.ntmps8
        go_wp2_with (first | (go_at_call 12; refine (hck _ (Below.refl _ _)).mono ?_; rintro e w1 ⟨rfl, b1⟩) | (go_at_call 22; (first | with_reducible refine (hn _).mono ?_ | with_reducible refine (hy _).mono ?_); rintro e w' ⟨rfl, hw⟩; subst w'))
        exact hend.out _ b1
      rcases d2 : inB y with _ | _
      · rw [d1] at hn
        rw [d2] at hy
        clear hin d1 d2
        go_enter Try.func8, Try.ntmps8
        go_wp2_with (first | (go_at_call 12; refine (hck _ (Below.refl _ _)).mono ?_; rintro e w1 ⟨rfl, b1⟩) | (go_at_call 22; (first | with_reducible refine (hn _).mono ?_ | with_reducible refine (hy _).mono ?_); rintro e w' ⟨rfl, hw⟩; subst w'))
        exact hend.out _ b1
      rw [d1] at hn
      rw [d2] at hy
      have hq : ¬ ((1 ≤ p ∧ p ≤ 255) ∧ (0 ≤ m ∧ m ≤ 256)) := fun h => hin ⟨d1, d2, h⟩
      clear hin d1 d2
      by_cases q1 : p < 1
      · clear hq
        go_enter Try.func8, Try.ntmps8
        go_wp2_with (first | (go_at_call 12; refine (hck _ (Below.refl _ _)).mono ?_; rintro e w1 ⟨rfl, b1⟩) | (go_at_call 22; (first | with_reducible refine (hn _).mono ?_ | with_reducible refine (hy _).mono ?_); rintro e w' ⟨rfl, hw⟩; subst w'))
        exact hend.out _ b1
      by_cases q2 : 255 < p
      · clear hq
        go_enter Try.func8, Try.ntmps8
        go_wp2_with (first | (go_at_call 12; refine (hck _ (Below.refl _ _)).mono ?_; rintro e w1 ⟨rfl, b1⟩) | (go_at_call 22; (first | with_reducible refine (hn _).mono ?_ | with_reducible refine (hy _).mono ?_); rintro e w' ⟨rfl, hw⟩; subst w'))
        exact hend.out _ b1
      by_cases q3 : m < 0
      · clear hq
        go_enter Try.func8, Try.ntmps8
        go_wp2_with (first | (go_at_call 12; refine (hck _ (Below.refl _ _)).mono ?_; rintro e w1 ⟨rfl, b1⟩) | (go_at_call 22; (first | with_reducible refine (hn _).mono ?_ | with_reducible refine (hy _).mono ?_); rintro e w' ⟨rfl, hw⟩; subst w'))
        exact hend.out _ b1
      have q4 : 256 < m := by omega
      clear hq
      go_enter Try.func8, Try.ntmps8
      go_wp2_with (first | (go_at_call 12; refine (hck _ (Below.refl _ _)).mono ?_; rintro e w1 ⟨rfl, b1⟩) | (go_at_call 22; (first | with_reducible refine (hn _).mono ?_ | with_reducible refine (hy _).mono ?_); rintro e w' ⟨rfl, hw⟩; subst w'))
      exact hend.out _ b1
  · have hend : Hid (∀ W, Below w.heap.size w W → SlEnd n l y p m w (.returned (.tuple #[.slice none 0 0, .int .i64 (ckI l)])) W) := fun W hW => slEnd_err (by rw [slsE_no h0]; exact h0) hW (slsE_no h0).symm
    have h0' : (ckI l == 0) = false := by simpa using h0
    clear hS h0
    generalize SlEnd n l y p m w = E at *
    generalize ckI l = z at *
    go_enter Try.func8, Try.ntmps8
    go_wp2_with (first | (go_at_call 12; refine (hck _ (Below.refl _ _)).mono ?_; rintro e w1 ⟨rfl, b1⟩) | (go_at_call 22; (first | with_reducible refine (hn _).mono ?_ | with_reducible refine (hy _).mono ?_); rintro e w' ⟨rfl, hw⟩; subst w'))
    exact hend.out _ b1

end Go.Proofs.Ythdlhikpjpfpeaa
