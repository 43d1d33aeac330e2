/-
  What is proved here: what Prev of cluster tells, at the text's beginning too; both sides answer alike.
-/
import Derived.Test.YtjmcfdmonckhmaaRefB
namespace Go.Proofs.Ytjmcfdmonckhmaa
open Go.RowKit Go.Shelf
attribute [local go_sem] Oper.semAt_some wide_fn wide_depth

set_option maxRecDepth 100000 in
set_option maxHeartbeats 1000000 in
theorem prev_gen (t : ByteArray) (h : wrongI t = 0) (a n : Nat) (hn : n ≤ num t) (h1 : ∀ j, j < n → st t j < a) (h2 : n < num t → a ≤ st t n) (ha : a ≤ t.size) (w : World) :
    Calls Try.prog 16 #[.string t, .int .i64 a] w fun e w' => e = .returned (.tuple #[.int .i64 (pv t n : Nat), .int .i64 0]) ∧ Below w.heap.size w w' := by
  have hsz := ok_size h
  have hnl := num_le t
  have hR : ∀ w, Calls Try.prog 27 #[.string t, .int .i64 a, .int .i64 ((t.size : Int))] w fun e w' => e = .returned (.int .i64 0) ∧ w' = w := fun w => by
    have := refusePlace_any t a ((t.size : Int)) w
    rwa [show placeI t a ((t.size : Int)) = 0 by unfold placeI; rw [if_pos h, if_pos (by omega)]] at this
  clear h
  refine callsIn_wide (n := 0).1 ?_
  refine callsIn_of_wp_marks Try.func16 rfl trivial ?_ rfl
  simp only [Try.ntmps16, List.size_toArray, List.length_cons, List.length_nil, Nat.reduceAdd, Nat.reduceSub, Array.replicate_succ, Array.replicate_zero, List.push_toArray, List.append_toArray, List.nil_append, List.cons_append]
  gi_wp2_with (first | (gi_at_call 27; refine (callsIn_wide.2 (hR _)).mono ?_; rintro e w' ⟨rfl, hww⟩; subst w') | (gi_at_call 23; refine (callsIn_wide.2 (clusters_any _ _)).mono ?_; rintro e w' ⟨rfl, rfl⟩))
  obtain ⟨w1, hw1⟩ : ∃ w1, ((w.alloc (.cells #[.int .i64 a] 3)).alloc (.cells #[.int .i64 0] 3)).alloc (.cells #[.string t] 9) = w1 := ⟨_, rfl⟩
  have hs1 : w1.heap.size = w.heap.size + 3 := by rw [← hw1]; simp
  have hT1 : Turns Noth w w1 := by rw [← hw1]; exact ((Turns.alloc _ _ _).trans (Turns.alloc _ _ _)).trans (Turns.alloc _ _ _)
  obtain ⟨hB0, hB1, hB2⟩ := allocs3 w (.cells #[.int .i64 a] 3) (.cells #[.int .i64 0] 3) (.cells #[.string t] 9)
  rw [hw1] at hB0 hB1 hB2
  have hRd : Read (w.heap.size + 2) t w1 := ⟨hB2⟩
  rw [hw1]
  refine wp_range (gf := 30) (lb := #[.pointer (some ⟨w.heap.size + 2, 0, none⟩)]) rfl (enters_of Try.func30 (by kernel_rfl) rfl) (clusters1_gives (w.heap.size + 2) t hsz) (fun _ => rfl)
    (fun j X W => (Base w1 (fun k => k = w.heap.size + 1) X W ∧ W.heap[w.heap.size + 1]? = some (.cells #[.int .i64 (pv t j : Nat)] 3)) ∧ j ≤ n)
    (fun c j X W => (Base w1 (fun k => k = w.heap.size + 1) X W ∧ W.heap[w.heap.size + 1]? = some (.cells #[.int .i64 (pv t j : Nat)] 3)) ∧ j = n ∧ c = .exit 0)
    (fun a' j X W => ((Base w1 (fun k => k = w.heap.size + 1) X W ∧ W.heap[w.heap.size + 1]? = some (.cells #[.int .i64 (pv t j : Nat)] 3)) ∧ j ≤ n) ∧
      ∃ B, ¬ X B ∧ W.heap[B]? = some (.cells (clC t j).toArray 28) ∧
      a' = { tmps := #[.string t, .int .i64 a, undef, .pointer (some ⟨w.heap.size, 0, none⟩), .int .i64 0, .int .i64 0, .int .i64 0, .pointer (some ⟨w.heap.size + 1, 0, none⟩), .pointer (some ⟨B, 0, none⟩), .string t, .int .i64 a, .string t, .int .i64 t.size, .int .i64 0, .int .i64 0, .bool false, undef, .string t, .func (.func 30) #[] #[.pointer (some ⟨w.heap.size + 2, 0, none⟩)], .agg (clC t j).toArray, undef, undef, undef, undef, undef, undef, undef], defers := [] })
    ((steady_box (by omega) _).and (Steady.pure _)) (fun c => (steady_box (by omega) _).and (Steady.pure _)) (fun a' => ((steady_box (by omega) _).and (Steady.pure _)).and (steady_round a' _ _)) ?hR ⟨⟨Base.start _ _, hB1⟩, by omega⟩ ?assign ?body ?done ?stop
  case hR =>
    rintro j X W ⟨⟨hb, _⟩, _⟩
    exact hRd.turns hb.turns (by omega)
  case assign =>
    rintro l j X W K hj ⟨⟨hb, hv⟩, hji⟩ hK
    unfold encC
    gi_wp2
    exact hK _ _ (Keeps.alloc _ _ _) ⟨⟨⟨hb.alloc _, (Below.heap_alloc _ _ _ (by have := hb.turns.size; omega)).trans hv⟩, hji⟩, W.heap.size, hb.fresh, World.alloc_heap_new _ _, rfl⟩
  case body =>
    rintro l j X a' W hj ⟨⟨⟨hb, hv⟩, hji⟩, B, hB, hr, rfl⟩
    have hc0 : W.cell? ⟨w.heap.size + 1, 0, none⟩ = some (.int .i64 (pv t j : Nat)) := by rw [Lib.cell_of_heap hv]; rfl
    have hf0 : W.frozen? ⟨w.heap.size + 1, 0, none⟩ = false := Lib.frozen_of_heap hv 0
    have hca : W.cell? ⟨w.heap.size, 0, none⟩ = some (.int .i64 a) := by rw [Lib.cell_of_heap ((hb.turns.block _ (by omega) (by omega)).trans hB0)]; rfl
    have hr0 : W.cell? ⟨B, 0, none⟩ = some (.int .i64 (st t j : Nat)) := by rw [Lib.cell_of_heap hr]; rfl
    have hbs := hb.turns.size
    by_cases hjj : j = n
    · have hst : (a : Int) ≤ (st t j : Nat) := by subst hjj; have := h2 hj; omega
      gi_wp2
      exact ⟨Keeps.refl _ _, ⟨hb, hv⟩, hjj, rfl⟩
    · have hst : ¬ (a : Int) ≤ (st t j : Nat) := by have := h1 j (by omega); omega
      gi_wp2
      refine ⟨Keeps.set W (fun h => by have := (hb.young _ h).1; simp at this; omega) _, ⟨hb.set rfl _, ?_⟩, by omega⟩
      rw [pv_succ]
      exact Boxed.set (.int .i64 (st t j : Nat)) (show Boxed W (w.heap.size + 1) 3 _ from hv)
  case done =>
    rintro D W hD ⟨⟨hb, hv⟩, hji⟩ hK
    have hc0 : W.cell? ⟨w.heap.size + 1, 0, none⟩ = some (.int .i64 (pv t (num t) : Nat)) := by rw [Lib.cell_of_heap hv]; rfl
    have he : Hid (pv t (num t) = pv t n) := by show pv t (num t) = _; rw [show num t = n by omega]
    gi_wp2
    refine ⟨by simp, .inl ⟨_, _, rfl, run_takeDeferred hK, ?_⟩⟩
    refine ⟨_, results_tmp2 rfl _ _ _, by rw [← he.out]; rfl, below_end hT1 hb (fun k h => by omega) _⟩
  case stop =>
    rintro D c j W hD hj ⟨⟨hb, hv⟩, hjj, rfl⟩ hK
    have hc0 : W.cell? ⟨w.heap.size + 1, 0, none⟩ = some (.int .i64 (pv t j : Nat)) := by rw [Lib.cell_of_heap hv]; rfl
    have he : Hid (pv t j = pv t n) := by show pv t j = _; rw [hjj]
    clear hjj
    gi_wp2
    refine ⟨by simp, .inl ⟨_, _, rfl, run_takeDeferred hK, ?_⟩⟩
    refine ⟨_, results_tmp2 rfl _ _ _, by rw [← he.out]; rfl, below_end hT1 hb (fun k h => by omega) _⟩


/-- The clusters that begin ahead of a place. -/
theorem ahead_of (t : ByteArray) {a : Nat} (ha : a ≤ t.size) : ∃ n, n ≤ num t ∧ (∀ j, j < n → st t j < a) ∧ a ≤ st t n := by
  by_cases h0 : a = 0
  · exact ⟨0, Nat.zero_le _, fun j hj => by omega, by omega⟩
  · obtain ⟨i, hi, h1, h2⟩ := has_cluster t (show a - 1 < t.size by omega)
    exact ⟨i + 1, hi, fun j hj => by have := st_mono t (show j ≤ i by omega); omega, by omega⟩
/-- The last cluster that begins at a place, or ahead of it. -/
theorem at_of (t : ByteArray) {a : Nat} (ha : a ≤ t.size) : ∃ i, i ≤ num t ∧ st t i ≤ a ∧ (i < num t → a < st t (i + 1)) := by
  by_cases h : a < t.size
  · obtain ⟨i, hi, h1, h2⟩ := has_cluster t h
    exact ⟨i, by omega, h1, fun _ => h2⟩
  · exact ⟨num t, Nat.le_refl _, by rw [num_end]; omega, fun h => by omega⟩

def Tells (f : Nat) (t : ByteArray) (a x e : Int) : Prop := ∀ w, Calls Try.prog f #[.string t, .int .i64 a] w fun y w' => y = .returned (.tuple #[.int .i64 x, .int .i64 e]) ∧ Below w.heap.size w w'
theorem place_ok {t : ByteArray} {a l : Int} (h : placeI t a l = 0) : wrongI t = 0 ∧ 0 ≤ a ∧ a ≤ l := by
  unfold placeI at h
  split at h
  · rename_i hw
    split at h
    · rename_i hp; exact ⟨hw, hp⟩
    · cases h
  · rename_i hw; exact absurd h hw

theorem next_both (t : ByteArray) (a : Int) : ∃ x e, Tells 14 t a x e ∧ Tells 15 t a x e := by
  by_cases h : placeI t a (t.size : Int) = 0
  · obtain ⟨hw, h0, h1⟩ := place_ok h
    obtain ⟨n, rfl⟩ := Int.eq_ofNat_of_zero_le h0
    have ha : n ≤ t.size := by omega
    obtain ⟨i, hi, q1, q2⟩ := at_of t ha
    exact ⟨_, _, fun w => next_ok t hw n i hi q1 q2 ha w, fun w => rnext_ok t hw n i hi q1 q2 ha w⟩
  · exact ⟨_, _, fun w => next_no t a h w, fun w => rnext_no t a h w⟩
theorem prev_both (t : ByteArray) (hs : (t.size : Int) ≤ 9223372036854775807) (a : Int) : ∃ x e, Tells 16 t a x e ∧ Tells 17 t a x e := by
  by_cases h : placeI t a (t.size : Int) = 0
  · obtain ⟨hw, h0, h1⟩ := place_ok h
    obtain ⟨n, rfl⟩ := Int.eq_ofNat_of_zero_le h0
    have ha : n ≤ t.size := by omega
    obtain ⟨m, hm, q1, q2⟩ := ahead_of t ha
    exact ⟨_, _, fun w => prev_gen t hw n m hm q1 (fun _ => q2) ha w, fun w => rprev_ok t hw n m hm q1 q2 ha w⟩
  · exact ⟨_, _, fun w => prev_no t hs a h w, fun w => rprev_no t a h w⟩
theorem start_both (t : ByteArray) (hs : (t.size : Int) ≤ 9223372036854775807) (a : Int) : ∃ x e, Tells 12 t a x e ∧ Tells 13 t a x e := by
  by_cases hw : wrongI t = 0
  · by_cases h : placeI t a ((t.size : Int) - 1) = 0
    · obtain ⟨_, h0, h1⟩ := place_ok h
      obtain ⟨n, rfl⟩ := Int.eq_ofNat_of_zero_le h0
      obtain ⟨i, hi, q1, q2⟩ := has_cluster t (show n < t.size by omega)
      exact ⟨_, _, fun w => start_ok t hw n i hi q1 q2 w, fun w => rstart_ok t hw n _ _ (.inl ⟨i, hi, by omega, by omega, rfl, rfl⟩) w⟩
    · have hn : ¬ (0 ≤ a ∧ a ≤ (t.size : Int) - 1) := fun h' => h (by unfold placeI; rw [if_pos hw, if_pos h'])
      have e0 : placeI t a ((t.size : Int) - 1) = 5 := by unfold placeI; rw [if_pos hw, if_neg hn]
      refine ⟨0, 5, fun w => ?_, fun w => rstart_ok t hw a _ _ (.inr ⟨fun i hi h' => ?_, rfl, rfl⟩) w⟩
      · have := start_no t hs a h w; rwa [e0] at this
      · have := st_le t (i + 1); omega
  · have e0 : placeI t a ((t.size : Int) - 1) = wrongI t := if_neg hw
    refine ⟨0, wrongI t, fun w => ?_, fun w => rstart_wrong t a hw w⟩
    have := start_no t hs a (by rw [e0]; exact hw) w; rwa [e0] at this
end Go.Proofs.Ytjmcfdmonckhmaa
