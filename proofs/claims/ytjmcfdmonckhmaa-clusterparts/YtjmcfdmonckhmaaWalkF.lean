/-
  What is proved here: what Next and Bound of cluster tell of any text and place.
-/
import Derived.Test.YtjmcfdmonckhmaaWalkE
namespace Go.Proofs.Ytjmcfdmonckhmaa
open Go.RowKit Go.Shelf
attribute [local go_sem] Oper.semAt_some wide_fn wide_depth

theorem steady_boxes {w₁ : World} {own : Nat → Prop} {B C : Nat} (hB : B < w₁.heap.size) (hC : C < w₁.heap.size) (o p : Nat → Obj) : Steady (fun i X W => Base w₁ own X W ∧ W.heap[B]? = some (o i) ∧ W.heap[C]? = some (p i)) :=
  fun _ _ _ _ _ hs ht hx => ⟨hs.1.step ht hx, (hs.1.keep ht hB).trans hs.2.1, (hs.1.keep ht hC).trans hs.2.2⟩

theorem run_loadVar_one {P : Program} (w : World) (ty : TypeId) (v : Value) (g : Nat) (hA : (isAgg ty).run P w = .ok false w) (hc : w.cell? ⟨g, 0, none⟩ = some v) : (loadVar ty ⟨g, 0, none⟩).run P w = .ok v w := by
  simp [loadVar, Sem.run_bind, hA, hc, go_sem]
theorem results_cells2 {P : Program} {fn : Func} {p q : Tmp} {t u : TypeId} (h : fn.results = #[.cell p t, .cell q u]) (tmps : Array Value) (w : World) (g k : Nat) (x y : Value)
    (hp : tmps.getD p undef = .pointer (some ⟨g, 0, none⟩)) (hq : tmps.getD q undef = .pointer (some ⟨k, 0, none⟩)) (hA : (isAgg t).run P w = .ok false w) (hB : (isAgg u).run P w = .ok false w)
    (hx : w.cell? ⟨g, 0, none⟩ = some x) (hy : w.cell? ⟨k, 0, none⟩ = some y) : (results fn tmps).run P w = .ok (.tuple #[x, y]) w := by
  have hp' : tmps[p]?.getD undef = .pointer (some ⟨g, 0, none⟩) := by simpa using hp
  have hq' : tmps[q]?.getD undef = .pointer (some ⟨k, 0, none⟩) := by simpa using hq
  simp [results, h, hp', hq', asAddr, run_loadVar_one w t x g hA hx, run_loadVar_one w u y k hB hy]
theorem results_cells1 {P : Program} {fn : Func} {p : Tmp} {t : TypeId} (h : fn.results = #[.cell p t]) (tmps : Array Value) (w : World) (g : Nat) (x : Value)
    (hp : tmps.getD p undef = .pointer (some ⟨g, 0, none⟩)) (hA : (isAgg t).run P w = .ok false w)
    (hx : w.cell? ⟨g, 0, none⟩ = some x) : (results fn tmps).run P w = .ok x w := by
  have hp' : tmps[p]?.getD undef = .pointer (some ⟨g, 0, none⟩) := by simpa using hp
  simp [results, h, hp', asAddr, run_loadVar_one w t x g hA hx]
theorem agg_no {P : Program} {t : TypeId} {d : TypeDesc} (hu : P.underlying t = some d) (hd : (match d with | .struct _ | .array _ _ => true | _ => false) = false) (w : World) : (isAgg t).run P w = .ok false w := by
  unfold isAgg
  rw [Sem.run_bind, run_underlying hu w]
  cases d <;> simp_all
theorem allocs4x (w : World) (a b c d : Obj) : (((((w.alloc a).alloc b).alloc c).alloc d).heap[w.heap.size]? = some a ∧ ((((w.alloc a).alloc b).alloc c).alloc d).heap[w.heap.size + 1]? = some b) ∧ ((((w.alloc a).alloc b).alloc c).alloc d).heap[w.heap.size + 1 + 1]? = some c ∧ ((((w.alloc a).alloc b).alloc c).alloc d).heap[w.heap.size + 1 + 1 + 1]? = some d := by
  refine ⟨⟨?_, ?_⟩, ?_, ?_⟩ <;> (show ((((w.heap.push a).push b).push c).push d)[_]? = _; simp only [Array.getElem?_push, Array.size_push]; repeat (first | rw [if_pos trivial] | rw [if_pos (by omega)] | rw [if_neg (by omega)]))
theorem heap_put {W : World} {D k : Nat} (h : k ≠ D) (o : Obj) : (W.putObj D o).heap[k]? = W.heap[k]? := World.putObj_heap_other h

set_option maxRecDepth 100000 in
set_option maxHeartbeats 1000000 in
theorem next_no (t : ByteArray) (a : Int) (h : placeI t a (t.size : Int) ≠ 0) (w : World) : Calls Try.prog 14 #[.string t, .int .i64 a] w fun e w' => e = .returned (.tuple #[.int .i64 0, .int .i64 (placeI t a (t.size : Int))]) ∧ Below w.heap.size w w' := by
  have hR := refusePlace_any t a (t.size : Int)
  generalize placeI t a (t.size : Int) = n at h hR ⊢
  go_enter Try.func14, Try.ntmps14
  go_wp2_with (go_at_call 27; refine (hR _).mono ?_; rintro e w' ⟨rfl, hww⟩; subst w')
  refine bodyPost_ret (results_cells2 rfl _ _ (w.heap.size + 1) (w.heap.size + 1 + 1) _ _ rfl rfl (agg_no Try.underlying3 rfl _) (agg_no Try.underlying23 rfl _) (by rw [Lib.cell_of_heap ((Below.heap_alloc _ _ _ (by simp)).trans (by have := World.alloc_heap_new (w.alloc (.cells #[.int .i64 a] 3)) (.cells #[.int .i64 0] 3); rwa [World.size_alloc] at this))]; rfl) (by rw [Lib.cell_of_heap (by have := World.alloc_heap_new ((w.alloc (.cells #[.int .i64 a] 3)).alloc (.cells #[.int .i64 0] 3)) (.cells #[.int .i64 n] 23); rwa [World.size_alloc, World.size_alloc] at this)]; rfl)) rfl ?_
  exact ⟨rfl, (((Below.refl _ w).alloc (Nat.le_refl _) _).alloc (by simp) _).alloc (by simp; omega) _⟩

set_option maxRecDepth 100000 in
set_option maxHeartbeats 1000000 in
theorem next_ok (t : ByteArray) (h : wrongI t = 0) (a i : Nat) (hi : i ≤ num t) (h1 : st t i ≤ a) (h2 : i < num t → a < st t (i + 1)) (ha : a ≤ t.size) (w : World) :
    Calls Try.prog 14 #[.string t, .int .i64 a] w fun e w' => e = .returned (.tuple #[.int .i64 (st t (i + 1) : Nat), .int .i64 0]) ∧ Below w.heap.size w w' := by
  have hsz := ok_size h
  have hnl := num_le t
  have hR : ∀ w, Calls Try.prog 27 #[.string t, .int .i64 a, .int .i64 (t.size : Int)] w fun e w' => e = .returned (.int .i64 0) ∧ w' = w := fun w => by
    have := refusePlace_any t a (t.size : Int) w
    rwa [show placeI t a (t.size : Int) = 0 by unfold placeI; rw [if_pos h, if_pos (by omega)]] at this
  clear h
  refine callsIn_wide (n := 0).1 ?_
  refine callsIn_of_wp_marks Try.func14 rfl trivial ?_ rfl
  simp only [Try.ntmps14, List.size_toArray, List.length_cons, List.length_nil, Nat.reduceAdd, Nat.reduceSub, Array.replicate_succ, Array.replicate_zero, List.push_toArray, List.append_toArray, List.nil_append, List.cons_append]
  gi_wp2_with (first | (gi_at_call 27; refine (callsIn_wide.2 (hR _)).mono ?_; rintro e w' ⟨rfl, hww⟩; subst w') | (gi_at_call 23; refine (callsIn_wide.2 (clusters_any _ _)).mono ?_; rintro e w' ⟨rfl, rfl⟩))
  obtain ⟨w1, hw1⟩ : ∃ w1, (((w.alloc (.cells #[.int .i64 a] 3)).alloc (.cells #[.int .i64 0] 3)).alloc (.cells #[.int .i64 0] 23)).alloc (.cells #[.string t] 9) = w1 := ⟨_, rfl⟩
  have hs1 : w1.heap.size = w.heap.size + 4 := by rw [← hw1]; simp
  have hT1 : Turns Noth w w1 := by rw [← hw1]; exact (((Turns.alloc _ _ _).trans (Turns.alloc _ _ _)).trans (Turns.alloc _ _ _)).trans (Turns.alloc _ _ _)
  obtain ⟨⟨hB0, hB1⟩, hB2, hB3⟩ := allocs4x w (.cells #[.int .i64 a] 3) (.cells #[.int .i64 0] 3) (.cells #[.int .i64 0] 23) (.cells #[.string t] 9)
  rw [hw1] at hB0 hB1 hB2 hB3
  have hRd : Read (w.heap.size + 1 + 1 + 1) t w1 := ⟨hB3⟩
  rw [hw1]
  refine wp_range (gf := 30) (lb := #[.pointer (some ⟨w.heap.size + 1 + 1 + 1, 0, none⟩)]) rfl (enters_of Try.func30 (by kernel_rfl) rfl) (clusters1_gives (w.heap.size + 1 + 1 + 1) t hsz) (fun _ => rfl)
    (fun j X W => (Base w1 (fun k => k = w.heap.size + 1 ∨ k = w.heap.size + 1 + 1) X W ∧ W.heap[w.heap.size + 1]? = some (.cells #[.int .i64 0] 3) ∧ W.heap[w.heap.size + 1 + 1]? = some (.cells #[.int .i64 0] 23)) ∧ j ≤ i)
    (fun c j X W => (Base w1 (fun k => k = w.heap.size + 1 ∨ k = w.heap.size + 1 + 1) X W ∧ W.heap[w.heap.size + 1]? = some (.cells #[.int .i64 (st t (j + 1) : Nat)] 3) ∧ W.heap[w.heap.size + 1 + 1]? = some (.cells #[.int .i64 0] 23)) ∧ j = i ∧ c = .ret)
    (fun a' j X W => ((Base w1 (fun k => k = w.heap.size + 1 ∨ k = w.heap.size + 1 + 1) X W ∧ W.heap[w.heap.size + 1]? = some (.cells #[.int .i64 0] 3) ∧ W.heap[w.heap.size + 1 + 1]? = some (.cells #[.int .i64 0] 23)) ∧ j ≤ i) ∧
      ∃ B, ¬ X B ∧ W.heap[B]? = some (.cells (clC t j).toArray 28) ∧
      a' = { tmps := #[.string t, .int .i64 a, undef, .pointer (some ⟨w.heap.size, 0, none⟩), .pointer (some ⟨w.heap.size + 1, 0, none⟩), .pointer (some ⟨w.heap.size + 1 + 1, 0, none⟩), .int .i64 0, .pointer (some ⟨B, 0, none⟩), .string t, .int .i64 a, .string t, .int .i64 t.size, .int .i64 0, .int .i64 0, .bool false, undef, .string t, .func (.func 30) #[] #[.pointer (some ⟨w.heap.size + 1 + 1 + 1, 0, none⟩)], .agg (clC t j).toArray, undef, undef, undef, undef, undef, undef, undef, undef], defers := [] })
    ((steady_boxes (by omega) (by omega) _ _).and (Steady.pure _)) (fun c => (steady_boxes (by omega) (by omega) _ _).and (Steady.pure _)) (fun a' => ((steady_boxes (by omega) (by omega) _ _).and (Steady.pure _)).and (steady_round a' _ _)) ?hR ⟨⟨Base.start _ _, hB1, hB2⟩, by omega⟩ ?assign ?body ?done ?stop
  case hR =>
    rintro j X W ⟨⟨hb, _⟩, _⟩
    exact hRd.turns hb.turns (by omega)
  case assign =>
    rintro l j X W K hj ⟨⟨hb, hv, hu⟩, hji⟩ hK
    have hbs := hb.turns.size
    unfold encC
    gi_wp2
    exact hK _ _ (Keeps.alloc _ _ _) ⟨⟨⟨hb.alloc _, (Below.heap_alloc _ _ _ (by omega)).trans hv, (Below.heap_alloc _ _ _ (by omega)).trans hu⟩, hji⟩, W.heap.size, hb.fresh, World.alloc_heap_new _ _, rfl⟩
  case body =>
    rintro l j X a' W hj ⟨⟨⟨hb, hv, hu⟩, hji⟩, B, hB, hr, rfl⟩
    have hf0 : W.frozen? ⟨w.heap.size + 1, 0, none⟩ = false := Lib.frozen_of_heap hv 0
    have hf1 : W.frozen? ⟨w.heap.size + 1 + 1, 0, none⟩ = false := Lib.frozen_of_heap hu 0
    have hc0 : W.cell? ⟨w.heap.size + 1, 0, none⟩ = some (.int .i64 0) := by rw [Lib.cell_of_heap hv]; rfl
    have hc1 : W.cell? ⟨w.heap.size + 1 + 1, 0, none⟩ = some (.int .i64 0) := by rw [Lib.cell_of_heap hu]; rfl
    have hca : W.cell? ⟨w.heap.size, 0, none⟩ = some (.int .i64 a) := by rw [Lib.cell_of_heap ((hb.turns.block _ (by omega) (by omega)).trans hB0)]; rfl
    have hr0 : W.cell? ⟨B, 1, none⟩ = some (.int .i64 (st t (j + 1) : Nat)) := by rw [Lib.cell_of_heap hr]; rfl
    have hbs := hb.turns.size
    by_cases hjj : j = i
    · have hst : (a : Int) < (st t (j + 1) : Nat) := by subst hjj; have := h2 hj; omega
      have hv' := Boxed.set (.int .i64 (st t (j + 1) : Nat)) (show Boxed W (w.heap.size + 1) 3 _ from hv)
      have hu' := Boxed.set (.int .i64 0) (show Boxed (W.setCell ⟨w.heap.size + 1, 0, none⟩ (.int .i64 (st t (j + 1) : Nat))) (w.heap.size + 1 + 1) 23 _ from (Below.heap_setCell _ _ _ _ (by simp)).trans hu)
      have q1 : Hid (((W.setCell ⟨w.heap.size + 1, 0, none⟩ (.int .i64 (st t (j + 1) : Nat))).setCell ⟨w.heap.size + 1 + 1, 0, none⟩ (.int .i64 0)).heap[w.heap.size + 1]? = some (.cells #[.int .i64 (st t (j + 1) : Nat)] 3)) := (Below.heap_setCell _ _ _ _ (by simp)).trans hv'
      have q2 : Hid (((W.setCell ⟨w.heap.size + 1, 0, none⟩ (.int .i64 (st t (j + 1) : Nat))).setCell ⟨w.heap.size + 1 + 1, 0, none⟩ (.int .i64 0)).heap[w.heap.size + 1 + 1]? = some (.cells #[.int .i64 0] 23)) := hu'
      have hj2 : Hid (j = i) := hjj
      clear hv' hu' hjj
      gi_wp2
      refine ⟨(Keeps.set W (fun h => by have := (hb.young _ h).1; simp at this; omega) _).trans (Keeps.set _ (fun h => by have := (hb.young _ h).1; simp at this; omega) _), ⟨(hb.set (.inl rfl) _).set (.inr rfl) _, ?_, ?_⟩, hj2.out, rfl⟩
      · exact q1.out
      · exact q2.out
    · have hst : ¬ (a : Int) < (st t (j + 1) : Nat) := by have := st_mono t (show j + 1 ≤ i by omega); omega
      gi_wp2
      exact ⟨Keeps.refl _ _, ⟨hb, hv, hu⟩, by omega⟩
  case done =>
    rintro D W hD ⟨⟨hb, hv, hu⟩, hji⟩ hK
    have he : Hid (t.size = st t (i + 1)) := by
      show _ = _
      have e : i = num t := by omega
      have := st_step t i; have := st_le t (i + 1); have e2 := num_end t; rw [← e] at e2; omega
    have hf0 : W.frozen? ⟨w.heap.size + 1, 0, none⟩ = false := Lib.frozen_of_heap hv 0
    have hf1 : W.frozen? ⟨w.heap.size + 1 + 1, 0, none⟩ = false := Lib.frozen_of_heap hu 0
    have hc0 : W.cell? ⟨w.heap.size + 1, 0, none⟩ = some (.int .i64 0) := by rw [Lib.cell_of_heap hv]; rfl
    have hc1 : W.cell? ⟨w.heap.size + 1 + 1, 0, none⟩ = some (.int .i64 0) := by rw [Lib.cell_of_heap hu]; rfl
    gi_wp2
    have hv' := Boxed.set (.int .i64 (t.size : Nat)) (show Boxed W (w.heap.size + 1) 3 _ from hv)
    have hu' := Boxed.set (.int .i64 0) (show Boxed (W.setCell ⟨w.heap.size + 1, 0, none⟩ (.int .i64 (t.size : Nat))) (w.heap.size + 1 + 1) 23 _ from (Below.heap_setCell _ _ _ _ (by simp)).trans hu)
    have hK' := (Below.heap_setCell (W.setCell ⟨w.heap.size + 1, 0, none⟩ (.int .i64 (t.size : Nat))) ⟨w.heap.size + 1 + 1, 0, none⟩ (.int .i64 0) D (show D ≠ w.heap.size + 1 + 1 by omega)).trans ((Below.heap_setCell W ⟨w.heap.size + 1, 0, none⟩ (.int .i64 (t.size : Nat)) D (show D ≠ w.heap.size + 1 by omega)).trans hK)
    refine ⟨by simp, .inl ⟨_, _, rfl, run_takeDeferred hK', ?_⟩⟩
    refine ⟨_, results_cells2 rfl _ _ (w.heap.size + 1) (w.heap.size + 1 + 1) (.int .i64 (t.size : Nat)) (.int .i64 0) rfl rfl (agg_no Try.underlying3 rfl _) (agg_no Try.underlying23 rfl _) (by rw [Lib.cell_of_heap ((heap_put (by omega) _).trans ((Below.heap_setCell _ _ _ _ (by simp)).trans hv'))]; rfl) (by rw [Lib.cell_of_heap ((heap_put (by omega) _).trans hu')]; rfl), by rw [← he.out], below_end hT1 ((hb.set (.inl rfl) _).set (.inr rfl) _) (fun k h => by omega) _⟩
  case stop =>
    rintro D c j W hD hj ⟨⟨hb, hv, hu⟩, hjj, rfl⟩ hK
    have hc0 : W.cell? ⟨w.heap.size + 1, 0, none⟩ = some (.int .i64 (st t (j + 1) : Nat)) := by rw [Lib.cell_of_heap hv]; rfl
    have hc1 : W.cell? ⟨w.heap.size + 1 + 1, 0, none⟩ = some (.int .i64 0) := by rw [Lib.cell_of_heap hu]; rfl
    gi_wp2
    refine ⟨by simp, .inl ⟨_, _, rfl, run_takeDeferred hK, ?_⟩⟩
    refine ⟨_, results_cells2 rfl _ _ (w.heap.size + 1) (w.heap.size + 1 + 1) (.int .i64 (st t (j + 1) : Nat)) (.int .i64 0) rfl rfl (agg_no Try.underlying3 rfl _) (agg_no Try.underlying23 rfl _) (by rw [Lib.cell_of_heap ((heap_put (by omega) _).trans hv)]; rfl) (by rw [Lib.cell_of_heap ((heap_put (by omega) _).trans hu)]; rfl), by rw [hjj], below_end hT1 hb (fun k h => by omega) _⟩


/-- Is a place a boundary? -/
def bndI (t : ByteArray) (a : Int) : Bool := decide (wrongI t = 0 ∧ ∃ i, i ≤ num t ∧ (st t i : Int) = a)

set_option maxRecDepth 100000 in
set_option maxHeartbeats 1000000 in
theorem bound_wrong (t : ByteArray) (a : Int) (h : wrongI t ≠ 0) (w : World) : Calls Try.prog 18 #[.string t, .int .i64 a] w fun e w' => e = .returned (.bool (bndI t a)) ∧ Below w.heap.size w w' := by
  have hR := refuse_any t
  have e0 : bndI t a = false := by unfold bndI; exact decide_eq_false (fun h' => h h'.1)
  rw [e0]
  generalize wrongI t = n at h hR
  go_enter Try.func18, Try.ntmps18
  go_wp2_with (go_at_call 22; refine (hR _).mono ?_; rintro e w' ⟨rfl, hww⟩; subst w')
  refine bodyPost_ret (results_cells1 rfl _ _ (w.heap.size + 1) _ rfl (agg_no Try.underlying4 rfl _) (by rw [Lib.cell_of_heap (by have := World.alloc_heap_new (w.alloc (.cells #[.int .i64 a] 3)) (.cells #[.bool false] 4); rwa [World.size_alloc] at this)]; rfl)) rfl ?_
  exact ⟨rfl, ((Below.refl _ w).alloc (Nat.le_refl _) _).alloc (by simp) _⟩

set_option maxRecDepth 100000 in
set_option maxHeartbeats 1000000 in
theorem bound_ok (t : ByteArray) (h : wrongI t = 0) (a : Int) (w : World) :
    Calls Try.prog 18 #[.string t, .int .i64 a] w fun e w' => e = .returned (.bool (bndI t a)) ∧ Below w.heap.size w w' := by
  have hsz := ok_size h
  have hnl := num_le t
  have hR : ∀ w, Calls Try.prog 22 #[.string t] w fun e w' => e = .returned (.int .i64 0) ∧ w' = w := fun w => by
    have := refuse_any t w
    rwa [h] at this
  have hyes : Hid (∀ i, i ≤ num t → (st t i : Int) = a → bndI t a = true) := fun i hi he => decide_eq_true ⟨h, i, hi, he⟩
  have hno : Hid ((∀ i, i < num t → (st t i : Int) ≠ a) → bndI t a = decide (a = t.size)) := fun hn => by
    by_cases ha : a = t.size
    · rw [decide_eq_true ha]; exact decide_eq_true ⟨h, num t, Nat.le_refl _, by rw [num_end]; exact ha.symm⟩
    · rw [decide_eq_false ha]
      refine decide_eq_false (fun ⟨_, i, hi, he⟩ => ?_)
      by_cases hi' : i < num t
      · exact hn i hi' he
      · obtain rfl : i = num t := by omega
        rw [num_end] at he; exact ha he.symm
  generalize bndI t a = r at hyes hno ⊢
  clear h
  refine callsIn_wide (n := 0).1 ?_
  refine callsIn_of_wp_marks Try.func18 rfl trivial ?_ rfl
  simp only [Try.ntmps18, List.size_toArray, List.length_cons, List.length_nil, Nat.reduceAdd, Nat.reduceSub, Array.replicate_succ, Array.replicate_zero, List.push_toArray, List.append_toArray, List.nil_append, List.cons_append]
  gi_wp2_with (first | (gi_at_call 22; refine (callsIn_wide.2 (hR _)).mono ?_; rintro e w' ⟨rfl, hww⟩; subst w') | (gi_at_call 23; refine (callsIn_wide.2 (clusters_any _ _)).mono ?_; rintro e w' ⟨rfl, rfl⟩))
  obtain ⟨w1, hw1⟩ : ∃ w1, ((w.alloc (.cells #[.int .i64 a] 3)).alloc (.cells #[.bool false] 4)).alloc (.cells #[.string t] 9) = w1 := ⟨_, rfl⟩
  have hs1 : w1.heap.size = w.heap.size + 3 := by rw [← hw1]; simp
  have hT1 : Turns Noth w w1 := by rw [← hw1]; exact ((Turns.alloc _ _ _).trans (Turns.alloc _ _ _)).trans (Turns.alloc _ _ _)
  obtain ⟨hB0, hB1, hB2⟩ := allocs3 w (.cells #[.int .i64 a] 3) (.cells #[.bool false] 4) (.cells #[.string t] 9)
  rw [hw1] at hB0 hB1 hB2
  have hRd : Read (w.heap.size + 1 + 1) t w1 := ⟨hB2⟩
  rw [hw1]
  refine wp_range (gf := 30) (lb := #[.pointer (some ⟨w.heap.size + 1 + 1, 0, none⟩)]) rfl (enters_of Try.func30 (by kernel_rfl) rfl) (clusters1_gives (w.heap.size + 1 + 1) t hsz) (fun _ => rfl)
    (fun j X W => (Base w1 (fun k => k = w.heap.size + 1) X W ∧ W.heap[w.heap.size + 1]? = some (.cells #[.bool false] 4)) ∧ Hid (∀ i, i < j → (st t i : Int) ≠ a))
    (fun c j X W => (Base w1 (fun k => k = w.heap.size + 1) X W ∧ W.heap[w.heap.size + 1]? = some (.cells #[.bool true] 4)) ∧ Hid (r = true) ∧ c = .ret)
    (fun a' j X W => ((Base w1 (fun k => k = w.heap.size + 1) X W ∧ W.heap[w.heap.size + 1]? = some (.cells #[.bool false] 4)) ∧ Hid (∀ i, i < j → (st t i : Int) ≠ a)) ∧
      ∃ B, ¬ X B ∧ W.heap[B]? = some (.cells (clC t j).toArray 28) ∧
      a' = { tmps := #[.string t, .int .i64 a, undef, .pointer (some ⟨w.heap.size, 0, none⟩), .pointer (some ⟨w.heap.size + 1, 0, none⟩), .pointer (some ⟨B, 0, none⟩), .string t, .int .i64 0, .bool false, .string t, .func (.func 30) #[] #[.pointer (some ⟨w.heap.size + 1 + 1, 0, none⟩)], .agg (clC t j).toArray, undef, undef, undef, undef, undef, undef, undef, undef], defers := [] })
    ((steady_box (by omega) _).and (Steady.pure _)) (fun c => (steady_box (by omega) _).and (Steady.pure _)) (fun a' => ((steady_box (by omega) _).and (Steady.pure _)).and (steady_round a' _ _)) ?hR ⟨⟨Base.start _ _, hB1⟩, fun i hi => by omega⟩ ?assign ?body ?done ?stop
  case hR =>
    rintro j X W ⟨⟨hb, _⟩, _⟩
    exact hRd.turns hb.turns (by omega)
  case assign =>
    rintro l j X W K hj ⟨⟨hb, hv⟩, hji⟩ hK
    have hbs := hb.turns.size
    unfold encC
    gi_wp2
    exact hK _ _ (Keeps.alloc _ _ _) ⟨⟨⟨hb.alloc _, (Below.heap_alloc _ _ _ (by omega)).trans hv⟩, hji⟩, W.heap.size, hb.fresh, World.alloc_heap_new _ _, rfl⟩
  case body =>
    rintro l j X a' W hj ⟨⟨⟨hb, hv⟩, hji⟩, B, hB, hr, rfl⟩
    have hf0 : W.frozen? ⟨w.heap.size + 1, 0, none⟩ = false := Lib.frozen_of_heap hv 0
    have hc0 : W.cell? ⟨w.heap.size + 1, 0, none⟩ = some (.bool false) := by rw [Lib.cell_of_heap hv]; rfl
    have hca : W.cell? ⟨w.heap.size, 0, none⟩ = some (.int .i64 a) := by rw [Lib.cell_of_heap ((hb.turns.block _ (by omega) (by omega)).trans hB0)]; rfl
    have hr0 : W.cell? ⟨B, 0, none⟩ = some (.int .i64 (st t j : Nat)) := by rw [Lib.cell_of_heap hr]; rfl
    have hbs := hb.turns.size
    by_cases hst : (st t j : Int) = a
    · have hr := hyes.out j (by omega) hst
      have hr' : Hid (r = true) := hr
      have hq : ((st t j : Int) == a) = true := by rw [hst]; simp
      have hv' := Boxed.set (.bool true) (show Boxed W (w.heap.size + 1) 4 _ from hv)
      have q1 : Hid ((W.setCell ⟨w.heap.size + 1, 0, none⟩ (.bool true)).heap[w.heap.size + 1]? = some (.cells #[.bool true] 4)) := hv'
      clear hv' hr hst
      gi_wp2
      exact ⟨Keeps.set W (fun h => by have := (hb.young _ h).1; simp at this; omega) _, ⟨hb.set rfl _, q1.out⟩, hr', rfl⟩
    · have hq : ((st t j : Int) == a) = false := by simpa using hst
      have hji2 : Hid (∀ i, i < j + 1 → (st t i : Int) ≠ a) := fun i hi => by
        by_cases h : i < j
        · exact hji.out i h
        · obtain rfl : i = j := by omega
          exact hst
      clear hji hst
      gi_wp2
      exact ⟨Keeps.refl _ _, ⟨hb, hv⟩, hji2⟩
  case done =>
    rintro D W hD ⟨⟨hb, hv⟩, hji⟩ hK
    have he : Hid (r = decide (a = t.size)) := hno.out hji.out
    have hf0 : W.frozen? ⟨w.heap.size + 1, 0, none⟩ = false := Lib.frozen_of_heap hv 0
    have hc0 : W.cell? ⟨w.heap.size + 1, 0, none⟩ = some (.bool false) := by rw [Lib.cell_of_heap hv]; rfl
    have hca : W.cell? ⟨w.heap.size, 0, none⟩ = some (.int .i64 a) := by rw [Lib.cell_of_heap ((hb.turns.block _ (by omega) (by omega)).trans hB0)]; rfl
    have hq : (a == (t.size : Int)) = decide (a = t.size) := by by_cases h : a = t.size <;> simp [h]
    generalize hdd : decide (a = t.size) = d at he hq
    clear hji hno hyes hdd
    gi_wp2
    have hv' := Boxed.set (.bool d) (show Boxed W (w.heap.size + 1) 4 _ from hv)
    have hK' := (Below.heap_setCell W ⟨w.heap.size + 1, 0, none⟩ (.bool d) D (show D ≠ w.heap.size + 1 by omega)).trans hK
    refine ⟨by simp, .inl ⟨_, _, rfl, run_takeDeferred hK', ?_⟩⟩
    refine ⟨_, results_cells1 rfl _ _ (w.heap.size + 1) (.bool d) rfl (agg_no Try.underlying4 rfl _) (by rw [Lib.cell_of_heap ((heap_put (by omega) _).trans hv')]; rfl), by rw [he.out], below_end hT1 (hb.set rfl _) (fun k h => by omega) _⟩
  case stop =>
    rintro D c j W hD hj ⟨⟨hb, hv⟩, hjj, rfl⟩ hK
    have hc0 : W.cell? ⟨w.heap.size + 1, 0, none⟩ = some (.bool true) := by rw [Lib.cell_of_heap hv]; rfl
    gi_wp2
    refine ⟨by simp, .inl ⟨_, _, rfl, run_takeDeferred hK, ?_⟩⟩
    refine ⟨_, results_cells1 rfl _ _ (w.heap.size + 1) (.bool true) rfl (agg_no Try.underlying4 rfl _) (by rw [Lib.cell_of_heap ((heap_put (by omega) _).trans hv)]; rfl), by rw [hjj.out], below_end hT1 hb (fun k h => by omega) _⟩

theorem bound_any (t : ByteArray) (a : Int) (w : World) : Calls Try.prog 18 #[.string t, .int .i64 a] w fun e w' => e = .returned (.bool (bndI t a)) ∧ Below w.heap.size w w' := by
  by_cases h : wrongI t = 0
  · exact bound_ok t h a w
  · exact bound_wrong t a h w

end Go.Proofs.Ytjmcfdmonckhmaa
