/-
  What is proved here: what Start and Prev of cluster tell of any text and place.
-/
import Derived.Test.YtjmcfdmonckhmaaWalkD
namespace Go.Proofs.Ytjmcfdmonckhmaa
open Go.RowKit Go.Shelf
attribute [local go_sem] Oper.semAt_some wide_fn wide_depth

/-- The beginning of the cluster ahead of cluster j, 0 if there is none. -/
def pv (t : ByteArray) (j : Nat) : Nat := if j = 0 then 0 else st t (j - 1)
theorem pv_succ (t : ByteArray) (j : Nat) : pv t (j + 1) = st t j := by unfold pv; rw [if_neg (by omega)]; rfl
theorem Steady.pure (p : Nat → Prop) : Steady (fun i _ _ => p i) := fun _ _ _ _ _ hs _ _ => hs
theorem allocs3 (w : World) (a b c : Obj) : (((w.alloc a).alloc b).alloc c).heap[w.heap.size]? = some a ∧ (((w.alloc a).alloc b).alloc c).heap[w.heap.size + 1]? = some b ∧ (((w.alloc a).alloc b).alloc c).heap[w.heap.size + 2]? = some c := by
  refine ⟨?_, ?_, ?_⟩ <;> (show (((w.heap.push a).push b).push c)[_]? = _; simp only [Array.getElem?_push, Array.size_push]; repeat (first | rw [if_pos trivial] | rw [if_pos (by omega)] | rw [if_neg (by omega)]))

set_option maxRecDepth 100000 in
set_option maxHeartbeats 1000000 in
theorem start_no (t : ByteArray) (hs : (t.size : Int) ≤ 9223372036854775807) (a : Int) (h : placeI t a ((t.size : Int) - 1) ≠ 0) (w : World) : Calls Try.prog 12 #[.string t, .int .i64 a] w fun e w' => e = .returned (.tuple #[.int .i64 0, .int .i64 (placeI t a ((t.size : Int) - 1))]) ∧ Below w.heap.size w w' := by
  have hR := refusePlace_any t a ((t.size : Int) - 1)
  have hs0 : (0 : Int) ≤ t.size := by omega
  have hs1 : t.size ≤ 9223372036854775807 := by omega
  generalize placeI t a ((t.size : Int) - 1) = n at h hR ⊢
  go_enter Try.func12, Try.ntmps12
  go_wp2_with (go_at_call 27; refine (hR _).mono ?_; rintro e w' ⟨rfl, hww⟩; subst w')
  go_ret2
  exact ⟨rfl, (Below.refl _ w).alloc (Nat.le_refl _) _⟩

set_option maxRecDepth 100000 in
set_option maxHeartbeats 1000000 in
theorem start_ok (t : ByteArray) (h : wrongI t = 0) (a i : Nat) (hi : i < num t) (h1 : st t i ≤ a) (h2 : a < st t (i + 1)) (w : World) :
    Calls Try.prog 12 #[.string t, .int .i64 a] w fun e w' => e = .returned (.tuple #[.int .i64 (st t i : Nat), .int .i64 0]) ∧ Below w.heap.size w w' := by
  have hsz := ok_size h
  have hnl := num_le t
  have hR : ∀ w, Calls Try.prog 27 #[.string t, .int .i64 a, .int .i64 ((t.size : Int) - 1)] w fun e w' => e = .returned (.int .i64 0) ∧ w' = w := fun w => by
    have := refusePlace_any t a ((t.size : Int) - 1) w
    rwa [show placeI t a ((t.size : Int) - 1) = 0 by unfold placeI; rw [if_pos h, if_pos (by have := st_le t (i + 1); omega)]] at this
  clear h
  refine callsIn_wide (n := 0).1 ?_
  refine callsIn_of_wp_marks Try.func12 rfl trivial ?_ rfl
  simp only [Try.ntmps12, List.size_toArray, List.length_cons, List.length_nil, Nat.reduceAdd, Nat.reduceSub, Array.replicate_succ, Array.replicate_zero, List.push_toArray, List.append_toArray, List.nil_append, List.cons_append]
  gi_wp2_with (first | (gi_at_call 27; refine (callsIn_wide.2 (hR _)).mono ?_; rintro e w' ⟨rfl, hww⟩; subst w') | (gi_at_call 23; refine (callsIn_wide.2 (clusters_any _ _)).mono ?_; rintro e w' ⟨rfl, rfl⟩))
  obtain ⟨w1, hw1⟩ : ∃ w1, ((w.alloc (.cells #[.int .i64 a] 3)).alloc (.cells #[.int .i64 0] 3)).alloc (.cells #[.string t] 9) = w1 := ⟨_, rfl⟩
  have hs1 : w1.heap.size = w.heap.size + 3 := by rw [← hw1]; simp
  have hT1 : Turns Noth w w1 := by rw [← hw1]; exact ((Turns.alloc _ _ _).trans (Turns.alloc _ _ _)).trans (Turns.alloc _ _ _)
  obtain ⟨hB0, hB1, hB2⟩ := allocs3 w (.cells #[.int .i64 a] 3) (.cells #[.int .i64 0] 3) (.cells #[.string t] 9)
  rw [hw1] at hB0 hB1 hB2
  have hRd : Read (w.heap.size + 2) t w1 := ⟨hB2⟩
  rw [hw1]
  refine wp_range (gf := 30) (lb := #[.pointer (some ⟨w.heap.size + 2, 0, none⟩)]) rfl (enters_of Try.func30 (by kernel_rfl) rfl) (clusters1_gives (w.heap.size + 2) t hsz) (fun _ => rfl)
    (fun j X W => (Base w1 (fun k => k = w.heap.size + 1) X W ∧ W.heap[w.heap.size + 1]? = some (.cells #[.int .i64 (pv t j : Nat)] 3)) ∧ j ≤ i + 1)
    (fun c j X W => (Base w1 (fun k => k = w.heap.size + 1) X W ∧ W.heap[w.heap.size + 1]? = some (.cells #[.int .i64 (pv t j : Nat)] 3)) ∧ j = i + 1 ∧ c = .exit 0)
    (fun a' j X W => ((Base w1 (fun k => k = w.heap.size + 1) X W ∧ W.heap[w.heap.size + 1]? = some (.cells #[.int .i64 (pv t j : Nat)] 3)) ∧ j ≤ i + 1) ∧
      ∃ B, ¬ X B ∧ W.heap[B]? = some (.cells (clC t j).toArray 28) ∧
      a' = { tmps := #[.string t, .int .i64 a, undef, .pointer (some ⟨w.heap.size, 0, none⟩), .int .i64 0, .int .i64 0, .int .i64 0, .pointer (some ⟨w.heap.size + 1, 0, none⟩), .pointer (some ⟨B, 0, none⟩), .string t, .int .i64 a, .string t, .int .i64 t.size, .int .i64 ((t.size : Int) - 1), .int .i64 0, .int .i64 0, .bool false, undef, .string t, .func (.func 30) #[] #[.pointer (some ⟨w.heap.size + 2, 0, none⟩)], .agg (clC t j).toArray, undef, undef, undef, undef, undef, undef, undef], defers := [] })
    ((steady_box (by omega) _).and (Steady.pure _)) (fun c => (steady_box (by omega) _).and (Steady.pure _)) (fun a' => ((steady_box (by omega) _).and (Steady.pure _)).and (steady_round a' _ _)) ?hR ⟨⟨Base.start _ _, hB1⟩, by omega⟩ ?assign ?body ?done ?stop
  case hR =>
    rintro j X W ⟨⟨hb, _⟩, _⟩
    exact hRd.turns hb.turns (by omega)
  case assign =>
    rintro l j X W K hj ⟨⟨hb, hv⟩, hji⟩ hK
    unfold encC
    gi_wp2
    exact hK _ _ (Keeps.alloc _ _ _) ⟨⟨⟨hb.alloc _, (Below.heap_alloc _ _ _ (by have := hb.turns.size; omega)).trans hv⟩, hji⟩, W.heap.size, hb.fresh, World.alloc_heap_new _ _, rfl⟩
  case body =>
    rintro l j X a' W hj ⟨⟨⟨hb, hv⟩, hji⟩, B, hB, hr, rfl⟩
    have hc0 : W.cell? ⟨w.heap.size + 1, 0, none⟩ = some (.int .i64 (pv t j : Nat)) := by rw [Lib.cell_of_heap hv]; rfl
    have hf0 : W.frozen? ⟨w.heap.size + 1, 0, none⟩ = false := Lib.frozen_of_heap hv 0
    have hca : W.cell? ⟨w.heap.size, 0, none⟩ = some (.int .i64 a) := by rw [Lib.cell_of_heap ((hb.turns.block _ (by omega) (by omega)).trans hB0)]; rfl
    have hr0 : W.cell? ⟨B, 0, none⟩ = some (.int .i64 (st t j : Nat)) := by rw [Lib.cell_of_heap hr]; rfl
    have hbs := hb.turns.size
    by_cases hjj : j = i + 1
    · have hst : (a : Int) < (st t j : Nat) := by subst hjj; omega
      gi_wp2
      exact ⟨Keeps.refl _ _, ⟨hb, hv⟩, hjj, rfl⟩
    · have hst : ¬ (a : Int) < (st t j : Nat) := by have := st_mono t (show j ≤ i by omega); omega
      gi_wp2
      refine ⟨Keeps.set W (fun h => by have := (hb.young _ h).1; simp at this; omega) _, ⟨hb.set rfl _, ?_⟩, by omega⟩
      rw [pv_succ]
      exact Boxed.set (.int .i64 (st t j : Nat)) (show Boxed W (w.heap.size + 1) 3 _ from hv)
  case done =>
    rintro D W hD ⟨⟨hb, hv⟩, hji⟩ hK
    have hc0 : W.cell? ⟨w.heap.size + 1, 0, none⟩ = some (.int .i64 (pv t (num t) : Nat)) := by rw [Lib.cell_of_heap hv]; rfl
    have he : Hid (pv t (num t) = st t i) := by show pv t (num t) = _; rw [show num t = i + 1 by omega]; exact pv_succ t i
    gi_wp2
    refine ⟨by simp, .inl ⟨_, _, rfl, run_takeDeferred hK, ?_⟩⟩
    refine ⟨_, results_tmp2 rfl _ _ _, by rw [← he.out]; rfl, below_end hT1 hb (fun k h => by omega) _⟩
  case stop =>
    rintro D c j W hD hj ⟨⟨hb, hv⟩, hjj, rfl⟩ hK
    have hc0 : W.cell? ⟨w.heap.size + 1, 0, none⟩ = some (.int .i64 (pv t j : Nat)) := by rw [Lib.cell_of_heap hv]; rfl
    have he : Hid (pv t j = st t i) := by show pv t j = _; rw [hjj]; exact pv_succ t i
    clear hjj
    gi_wp2
    refine ⟨by simp, .inl ⟨_, _, rfl, run_takeDeferred hK, ?_⟩⟩
    refine ⟨_, results_tmp2 rfl _ _ _, by rw [← he.out]; rfl, below_end hT1 hb (fun k h => by omega) _⟩

set_option maxRecDepth 100000 in
set_option maxHeartbeats 1000000 in
theorem prev_no (t : ByteArray) (hs : (t.size : Int) ≤ 9223372036854775807) (a : Int) (h : placeI t a (t.size : Int) ≠ 0) (w : World) : Calls Try.prog 16 #[.string t, .int .i64 a] w fun e w' => e = .returned (.tuple #[.int .i64 0, .int .i64 (placeI t a (t.size : Int))]) ∧ Below w.heap.size w w' := by
  have hR := refusePlace_any t a (t.size : Int)
  have hs0 : (0 : Int) ≤ t.size := by omega
  have hs1 : t.size ≤ 9223372036854775807 := by omega
  generalize placeI t a (t.size : Int) = n at h hR ⊢
  go_enter Try.func16, Try.ntmps16
  go_wp2_with (go_at_call 27; refine (hR _).mono ?_; rintro e w' ⟨rfl, hww⟩; subst w')
  go_ret2
  exact ⟨rfl, (Below.refl _ w).alloc (Nat.le_refl _) _⟩

set_option maxRecDepth 100000 in
set_option maxHeartbeats 1000000 in
theorem prev_ok (t : ByteArray) (h : wrongI t = 0) (a i : Nat) (hi : i < num t) (h1 : st t i < a) (h2 : a ≤ st t (i + 1)) (w : World) :
    Calls Try.prog 16 #[.string t, .int .i64 a] w fun e w' => e = .returned (.tuple #[.int .i64 (st t i : Nat), .int .i64 0]) ∧ Below w.heap.size w w' := by
  have hsz := ok_size h
  have hnl := num_le t
  have hR : ∀ w, Calls Try.prog 27 #[.string t, .int .i64 a, .int .i64 ((t.size : Int))] w fun e w' => e = .returned (.int .i64 0) ∧ w' = w := fun w => by
    have := refusePlace_any t a ((t.size : Int)) w
    rwa [show placeI t a ((t.size : Int)) = 0 by unfold placeI; rw [if_pos h, if_pos (by have := st_le t (i + 1); omega)]] at this
  clear h
  refine callsIn_wide (n := 0).1 ?_
  refine callsIn_of_wp_marks Try.func16 rfl trivial ?_ rfl
  simp only [Try.ntmps16, List.size_toArray, List.length_cons, List.length_nil, Nat.reduceAdd, Nat.reduceSub, Array.replicate_succ, Array.replicate_zero, List.push_toArray, List.append_toArray, List.nil_append, List.cons_append]
  gi_wp2_with (first | (gi_at_call 27; refine (callsIn_wide.2 (hR _)).mono ?_; rintro e w' ⟨rfl, hww⟩; subst w') | (gi_at_call 23; refine (callsIn_wide.2 (clusters_any _ _)).mono ?_; rintro e w' ⟨rfl, rfl⟩))
  obtain ⟨w1, hw1⟩ : ∃ w1, ((w.alloc (.cells #[.int .i64 a] 3)).alloc (.cells #[.int .i64 0] 3)).alloc (.cells #[.string t] 9) = w1 := ⟨_, rfl⟩
  have hs1 : w1.heap.size = w.heap.size + 3 := by rw [← hw1]; simp
  have hT1 : Turns Noth w w1 := by rw [← hw1]; exact ((Turns.alloc _ _ _).trans (Turns.alloc _ _ _)).trans (Turns.alloc _ _ _)
  obtain ⟨hB0, hB1, hB2⟩ := allocs3 w (.cells #[.int .i64 a] 3) (.cells #[.int .i64 0] 3) (.cells #[.string t] 9)
  rw [hw1] at hB0 hB1 hB2
  have hRd : Read (w.heap.size + 2) t w1 := ⟨hB2⟩
  rw [hw1]
  refine wp_range (gf := 30) (lb := #[.pointer (some ⟨w.heap.size + 2, 0, none⟩)]) rfl (enters_of Try.func30 (by kernel_rfl) rfl) (clusters1_gives (w.heap.size + 2) t hsz) (fun _ => rfl)
    (fun j X W => (Base w1 (fun k => k = w.heap.size + 1) X W ∧ W.heap[w.heap.size + 1]? = some (.cells #[.int .i64 (pv t j : Nat)] 3)) ∧ j ≤ i + 1)
    (fun c j X W => (Base w1 (fun k => k = w.heap.size + 1) X W ∧ W.heap[w.heap.size + 1]? = some (.cells #[.int .i64 (pv t j : Nat)] 3)) ∧ j = i + 1 ∧ c = .exit 0)
    (fun a' j X W => ((Base w1 (fun k => k = w.heap.size + 1) X W ∧ W.heap[w.heap.size + 1]? = some (.cells #[.int .i64 (pv t j : Nat)] 3)) ∧ j ≤ i + 1) ∧
      ∃ B, ¬ X B ∧ W.heap[B]? = some (.cells (clC t j).toArray 28) ∧
      a' = { tmps := #[.string t, .int .i64 a, undef, .pointer (some ⟨w.heap.size, 0, none⟩), .int .i64 0, .int .i64 0, .int .i64 0, .pointer (some ⟨w.heap.size + 1, 0, none⟩), .pointer (some ⟨B, 0, none⟩), .string t, .int .i64 a, .string t, .int .i64 t.size, .int .i64 0, .int .i64 0, .bool false, undef, .string t, .func (.func 30) #[] #[.pointer (some ⟨w.heap.size + 2, 0, none⟩)], .agg (clC t j).toArray, undef, undef, undef, undef, undef, undef, undef], defers := [] })
    ((steady_box (by omega) _).and (Steady.pure _)) (fun c => (steady_box (by omega) _).and (Steady.pure _)) (fun a' => ((steady_box (by omega) _).and (Steady.pure _)).and (steady_round a' _ _)) ?hR ⟨⟨Base.start _ _, hB1⟩, by omega⟩ ?assign ?body ?done ?stop
  case hR =>
    rintro j X W ⟨⟨hb, _⟩, _⟩
    exact hRd.turns hb.turns (by omega)
  case assign =>
    rintro l j X W K hj ⟨⟨hb, hv⟩, hji⟩ hK
    unfold encC
    gi_wp2
    exact hK _ _ (Keeps.alloc _ _ _) ⟨⟨⟨hb.alloc _, (Below.heap_alloc _ _ _ (by have := hb.turns.size; omega)).trans hv⟩, hji⟩, W.heap.size, hb.fresh, World.alloc_heap_new _ _, rfl⟩
  case body =>
    rintro l j X a' W hj ⟨⟨⟨hb, hv⟩, hji⟩, B, hB, hr, rfl⟩
    have hc0 : W.cell? ⟨w.heap.size + 1, 0, none⟩ = some (.int .i64 (pv t j : Nat)) := by rw [Lib.cell_of_heap hv]; rfl
    have hf0 : W.frozen? ⟨w.heap.size + 1, 0, none⟩ = false := Lib.frozen_of_heap hv 0
    have hca : W.cell? ⟨w.heap.size, 0, none⟩ = some (.int .i64 a) := by rw [Lib.cell_of_heap ((hb.turns.block _ (by omega) (by omega)).trans hB0)]; rfl
    have hr0 : W.cell? ⟨B, 0, none⟩ = some (.int .i64 (st t j : Nat)) := by rw [Lib.cell_of_heap hr]; rfl
    have hbs := hb.turns.size
    by_cases hjj : j = i + 1
    · have hst : (a : Int) ≤ (st t j : Nat) := by subst hjj; omega
      gi_wp2
      exact ⟨Keeps.refl _ _, ⟨hb, hv⟩, hjj, rfl⟩
    · have hst : ¬ (a : Int) ≤ (st t j : Nat) := by have := st_mono t (show j ≤ i by omega); omega
      gi_wp2
      refine ⟨Keeps.set W (fun h => by have := (hb.young _ h).1; simp at this; omega) _, ⟨hb.set rfl _, ?_⟩, by omega⟩
      rw [pv_succ]
      exact Boxed.set (.int .i64 (st t j : Nat)) (show Boxed W (w.heap.size + 1) 3 _ from hv)
  case done =>
    rintro D W hD ⟨⟨hb, hv⟩, hji⟩ hK
    have hc0 : W.cell? ⟨w.heap.size + 1, 0, none⟩ = some (.int .i64 (pv t (num t) : Nat)) := by rw [Lib.cell_of_heap hv]; rfl
    have he : Hid (pv t (num t) = st t i) := by show pv t (num t) = _; rw [show num t = i + 1 by omega]; exact pv_succ t i
    gi_wp2
    refine ⟨by simp, .inl ⟨_, _, rfl, run_takeDeferred hK, ?_⟩⟩
    refine ⟨_, results_tmp2 rfl _ _ _, by rw [← he.out]; rfl, below_end hT1 hb (fun k h => by omega) _⟩
  case stop =>
    rintro D c j W hD hj ⟨⟨hb, hv⟩, hjj, rfl⟩ hK
    have hc0 : W.cell? ⟨w.heap.size + 1, 0, none⟩ = some (.int .i64 (pv t j : Nat)) := by rw [Lib.cell_of_heap hv]; rfl
    have he : Hid (pv t j = st t i) := by show pv t j = _; rw [hjj]; exact pv_succ t i
    clear hjj
    gi_wp2
    refine ⟨by simp, .inl ⟨_, _, rfl, run_takeDeferred hK, ?_⟩⟩
    refine ⟨_, results_tmp2 rfl _ _ _, by rw [← he.out]; rfl, below_end hT1 hb (fun k h => by omega) _⟩

end Go.Proofs.Ytjmcfdmonckhmaa
