/-
  What is proved here: what Split of cluster tells of any text.
-/
import Derived.Test.YtkhnfmdhdfpdhaaWalkC
import Derived.Maps.AppendAt
namespace Go.Proofs.Ytkhnfmdhdfpdhaa
open Go.RowKit Go.Shelf
attribute [local go_sem] Oper.semAt_some wide_fn wide_depth

theorem Read.turns {Bt : Nat} {t : ByteArray} {W W' : World} {own : Nat → Prop} (h : Read Bt t W) (ht : Turns own W W') (h1 : ¬ own Bt) : Read Bt t W' :=
  ⟨(ht.block _ (Array.getElem?_eq_some_iff.1 h.box).1 h1).trans h.box⟩
theorem cells_new (w : World) (l : List Value) (e : TypeId) : ∀ j u, l[j]? = some u → (w.alloc (.cells l.toArray e)).cell? ((⟨w.heap.size, 0, none⟩ : Addr).add j) = some u := fun j u hu => by
  have h := World.alloc_heap_new w (.cells l.toArray e)
  have e : (⟨w.heap.size, 0, none⟩ : Addr).add j = ⟨w.heap.size, j, none⟩ := by
    unfold Addr.add
    by_cases hj : j = 0
    · rw [if_pos hj, hj]
    · rw [if_neg hj, Nat.zero_add]
  rw [e, Lib.cell_of_heap h]
  simpa using hu
theorem cl_one (t : ByteArray) (i : Nat) : ∀ u ∈ clC t i, u.oneCell' = true := by intro u hu; simp [clC] at hu; rcases hu with rfl | rfl | rfl <;> rfl
theorem info28 : (Try.prog.info? 120).map (fun i => (i.zero, i.size, i.bytes)) = some (some (.agg #[.int .i64 0, .int .i64 0, .int .i64 0]), 3, 24) := by kernel_rfl

set_option maxRecDepth 100000 in
set_option maxHeartbeats 1000000 in
theorem split_no (t : ByteArray) (h : wrongI t ≠ 0) (w : World) : Calls Try.prog 84 #[.string t] w fun e w' => e = .returned (.tuple #[.slice none 0 0, .int .i64 (wrongI t)]) ∧ w' = w := by
  have hR := refuse_any t w
  generalize wrongI t = n at h hR ⊢
  go_enter Try.func84, Try.ntmps84
  go_wp2_with (go_at_call 100; refine hR.mono ?_; rintro e w' ⟨rfl, hww⟩; subst w')
  go_ret2
  exact ⟨rfl, rfl⟩

set_option maxRecDepth 100000 in
set_option maxHeartbeats 1000000 in
theorem split_ok (t : ByteArray) (h : wrongI t = 0) (w : World) : Calls Try.prog 84 #[.string t] w fun e w' => ∃ v, e = .returned (.tuple #[v, .int .i64 0]) ∧ w'.ownsRow w.heap.size 120 3 v (num t) (rowC t (num t)) ∧ Below w.heap.size w w' := by
  have hR := refuse_any t w
  have hsz := ok_size h
  have hnl := num_le t
  rw [h] at hR
  clear h
  refine callsIn_wide (n := 0).1 ?_
  refine callsIn_of_wp_marks Try.func84 rfl trivial ?_ rfl
  simp only [Try.ntmps84, List.size_toArray, List.length_cons, List.length_nil, Nat.reduceAdd, Nat.reduceSub, Array.replicate_succ, Array.replicate_zero, List.push_toArray, List.append_toArray, List.nil_append, List.cons_append]
  gi_wp2_with (first | (gi_at_call 100; refine (callsIn_wide.2 hR).mono ?_; rintro e w' ⟨rfl, hww⟩; subst w') | (gi_at_call 101; refine (callsIn_wide.2 (clusters_any _ _)).mono ?_; rintro e w' ⟨rfl, rfl⟩))
  obtain ⟨w1, hw1⟩ : ∃ w1, (w.alloc (.cells #[.slice none 0 0] 116)).alloc (.cells #[.string t] 9) = w1 := ⟨_, rfl⟩
  have hs1 : w1.heap.size = w.heap.size + 2 := by rw [← hw1]; simp
  have hT1 : Turns Noth w w1 := by rw [← hw1]; exact (Turns.alloc _ _ _).trans (Turns.alloc _ _ _)
  have hB1 : w1.heap[w.heap.size]? = some (.cells #[.slice none 0 0] 116) := by rw [← hw1]; exact (Below.heap_alloc _ _ _ (by simp)).trans (World.alloc_heap_new w _)
  have hB2 : w1.heap[w.heap.size + 1]? = some (.cells #[.string t] 9) := by rw [← hw1]; have := World.alloc_heap_new (w.alloc (.cells #[.slice none 0 0] 116)) (.cells #[.string t] 9); rwa [World.size_alloc] at this
  have hRd : Read (w.heap.size + 1) t w1 := ⟨hB2⟩
  obtain ⟨i0, hi, hz0, hz1, hz2⟩ := info_parts info28
  rw [hw1]
  refine wp_range (gf := 106) (lb := #[.pointer (some ⟨w.heap.size + 1, 0, none⟩)]) rfl (enters_of Try.func106 (by kernel_rfl) rfl) (clusters1_gives (w.heap.size + 1) t hsz) (fun _ => rfl)
    (fun j X W => Base w1 (fun k => k = w.heap.size) X W ∧ ∃ v, W.heap[w.heap.size]? = some (.cells #[v] 116) ∧ W.ownsRow w1.heap.size 120 3 v j (rowC t j) ∧ ∀ g, v.ownBlock = some g → ¬ X g)
    (fun _ _ _ _ => False)
    (fun a' j X W => (Base w1 (fun k => k = w.heap.size) X W ∧ ∃ v, W.heap[w.heap.size]? = some (.cells #[v] 116) ∧ W.ownsRow w1.heap.size 120 3 v j (rowC t j) ∧ ∀ g, v.ownBlock = some g → ¬ X g) ∧
      ∃ B, ¬ X B ∧ W.heap[B]? = some (.cells (clC t j).toArray 120) ∧
      a' = { tmps := #[.string t, undef, .slice none 0 0, .int .i64 0, .int .i64 0, .pointer (some ⟨w.heap.size, 0, none⟩), .pointer (some ⟨B, 0, none⟩), .string t, .int .i64 0, .int .i64 0, .bool false, undef, .string t, .func (.func 106) #[] #[.pointer (some ⟨w.heap.size + 1, 0, none⟩)], .agg (clC t j).toArray, undef, undef, undef, undef, undef], defers := [] })
    (steady_row (by omega) _ _ _ _ _ _) (fun _ => steady_never) (fun a' => (steady_row (by omega) _ _ _ _ _ _).and (steady_round a' _ _)) ?hR ⟨Base.start _ _, _, hB1, World.ownsRow_nil _ _ _ _, fun g hg => by cases hg⟩ ?assign ?body ?done ?stop
  case hR =>
    rintro i X W ⟨hb, _⟩
    exact hRd.turns hb.turns (by omega)
  case assign =>
    rintro l j X W K hj ⟨hb, v, hv, hr, hg⟩ hK
    unfold encC
    gi_wp2
    exact hK _ _ (Keeps.alloc _ _ _) ⟨⟨hb.alloc _, v, (Below.heap_alloc _ _ _ (by have := hb.turns.size; omega)).trans hv, hr.alloc _, hg⟩, W.heap.size, hb.fresh, World.alloc_heap_new _ _, rfl⟩
  case body =>
    rintro l j X a' W hj ⟨⟨hb, v, hv, hrow, hg⟩, B, hB, hr, rfl⟩
    have hc0 : W.cell? ⟨w.heap.size, 0, none⟩ = some v := by rw [Lib.cell_of_heap hv]; rfl
    have hr0 : W.cell? ⟨B, 0, none⟩ = some (.int .i64 (st t j : Nat)) := by rw [Lib.cell_of_heap hr]; rfl
    have hr1 : W.cell? ⟨B, 1, none⟩ = some (.int .i64 (st t (j + 1) : Nat)) := by rw [Lib.cell_of_heap hr]; rfl
    have hr2 : W.cell? ⟨B, 2, none⟩ = some (.int .i64 (kindI (bt t (st t j)))) := by rw [Lib.cell_of_heap hr]; rfl
    have hbs := hb.turns.size
    gi_wp2_with (gi_at_builtin; refine wpListIn_append_where _ rfl _ _ 116 rfl w1.heap.size 120 i0 _ 3 24 Try.underlying116 hi hz0 hz1 hz2 rfl (by decide) v _ _ rfl (hrow.alloc _) ⟨W.heap.size, 0, none⟩ 1 1 (clC t j) rfl rfl (cells_new W _ _) (cl_one t j) (by unfold maxLen; omega) (by omega) (by simp; omega) ?_; intro v' w2 hown' hgrow hwh; obtain ⟨g', cap', rfl⟩ := ownsRow_succ hown'; obtain ⟨hv1, q1, q2, q3, q4, q5⟩ := append_step hb (by omega) hv (by decide) hrow hg hown' hgrow hwh; have hc1 := hv1.cell; have hf1 := hv1.frozen)
    exact ⟨q1, q2, _, q3, q4, q5⟩
  case done =>
    rintro D W hD ⟨hb, v, hv, hrow, hg⟩ hK
    have hc0 : W.cell? ⟨w.heap.size, 0, none⟩ = some v := by rw [Lib.cell_of_heap hv]; rfl
    gi_wp2
    refine ⟨by simp, .inl ⟨_, _, rfl, run_takeDeferred hK, ?_⟩⟩
    refine ⟨_, results_tmp2 rfl _ _ _, v, rfl, ?_, below_end hT1 hb (fun k h => by omega) _⟩
    exact ownsRow_turns (ownsRow_base hrow (by omega)) (Turns.putObj (X := fun k => k = D) W rfl _) hg
  case stop =>
    rintro D c i W _ _ h _
    exact h.elim

end Go.Proofs.Ytkhnfmdhdfpdhaa
