/-
  What is proved here: what apply of style answers.
-/
import Derived.Test.YtifkelpgpdgenaaWalkC
import Derived.BigQuiet
import Derived.Deep.RegionWith
namespace Go.Proofs.Ytifkelpgpdgenaa
open Go.RowKit Go.Shelf

/-- A list of settings, in memory. -/
structure SetsAt (W : World) (v : Value) (qs : List (Int × Int)) : Prop where
  ex : ∃ a cap, v = .slice a qs.length cap ∧ (qs = [] ∨ ∃ b o, a = some ⟨b, o, none⟩ ∧ b < W.heap.size ∧ ∀ (i : Nat) (h : i < qs.length),
    W.cell? ⟨b, o + i * 2, none⟩ = some (.int .i64 qs[i].1) ∧ W.cell? ⟨b, o + i * 2 + 1, none⟩ = some (.int .i64 qs[i].2))
  few : qs.length ≤ 9223372036854775807

theorem SetsAt.below {W W' : World} {v : Value} {qs : List (Int × Int)} (h : SetsAt W v qs) (hb : Below W.heap.size W W') : SetsAt W' v qs := by
  obtain ⟨a, cap, rfl, h2⟩ := h.ex
  refine ⟨⟨a, cap, rfl, ?_⟩, h.few⟩
  rcases h2 with h2 | ⟨b, o, rfl, hlt, hc⟩
  · exact .inl h2
  · refine .inr ⟨b, o, rfl, Nat.lt_of_lt_of_le hlt hb.size, fun i hi => ?_⟩
    obtain ⟨c0, c1⟩ := hc i hi
    have hw : ∀ j v, W.cell? ⟨b, j, none⟩ = some v → W'.cell? ⟨b, j, none⟩ = some v := fun j v hv => by
      rw [← hv]; exact hb.cell hlt
    exact ⟨hw _ _ c0, hw _ _ c1⟩

theorem below_drew {n : Nat} {w w' : World} (h : Below n w w') : Below n w w'.drew := ⟨h.1, h.2, h.3, h.4, h.5⟩

/-- What a list of settings makes of properties. -/
def setP (l : List Int) (q : Int × Int) : List Int := l.set (q.1.toNat - 1) q.2
def applyL (l : List Int) (qs : List (Int × Int)) : List Int := qs.foldl setP l
def allP (qs : List (Int × Int)) : Prop := ∀ q ∈ qs, 1 ≤ q.1 ∧ q.1 ≤ 17
theorem applyL_length (l : List Int) (qs : List (Int × Int)) : (applyL l qs).length = l.length := by
  induction qs generalizing l with
  | nil => rfl
  | cons q r ih => show (applyL (setP l q) r).length = _; rw [ih]; simp [setP]
theorem applyL_step (l : List Int) (qs : List (Int × Int)) {k : Nat} (h : k < qs.length) : applyL l (qs.take (k + 1)) = (applyL l (qs.take k)).set (qs[k].1.toNat - 1) qs[k].2 := by
  rw [List.take_succ_eq_append_getElem h]; unfold applyL; rw [List.foldl_append]; rfl

set_option maxRecDepth 100000 in
set_option maxHeartbeats 4000000 in
theorem apply_any (l : List Int) (hl : l.length = 17) (v : Value) (qs : List (Int × Int)) (hq : allP qs) (w : World) (hS : SetsAt w v qs) :
    Calls Try.prog 35 #[prV l, v] w fun e w' => e = .returned (prV (applyL l qs)) ∧ Below w.heap.size w w' := by
  obtain ⟨a, cap, rfl, h2⟩ := hS.ex
  have hlen := hS.few
  have hq' : Hid (allP qs) := hq
  clear hq hS
  obtain ⟨w0, hw0⟩ : ∃ w0, (w.alloc (.cells (prC l) 23)).alloc (.cells (prC zeroL) 23) = w0 := ⟨_, rfl⟩
  have hB0 : Below w.heap.size w w0 := by rw [← hw0]; exact ((Below.refl _ w).alloc (Nat.le_refl _) _).alloc (by simp) _
  have hs0 : w0.heap.size = w.heap.size + 2 := by rw [← hw0]; simp
  have hP0 : PB w0 w.heap.size 23 l := by
    rw [← hw0]
    exact (PB.new w hl).below ((Below.refl _ _).alloc (Nat.le_refl _) _) (by simp)
  have hZ0 : PB w0 (w.heap.size + 1) 23 zeroL := by
    rw [← hw0]
    have := PB.new (w.alloc (.cells (prC l) 23)) (T := 23) (l := zeroL) rfl
    simpa using this
  unfold prV
  go_enter Try.func35, Try.ntmps35
  go_wp2_with fail
  have hz : (Obj.cells #[Value.int IntKind.i64 0, Value.int IntKind.i64 0, Value.int IntKind.i64 0, Value.int IntKind.i64 0, Value.int IntKind.i64 0, Value.int IntKind.i64 0, Value.int IntKind.i64 0, Value.int IntKind.i64 0, Value.int IntKind.i64 0, Value.int IntKind.i64 0, Value.int IntKind.i64 0, Value.int IntKind.i64 0, Value.int IntKind.i64 0, Value.int IntKind.i64 0, Value.int IntKind.i64 0, Value.int IntKind.i64 0, Value.int IntKind.i64 0] 23) = .cells (prC zeroL) 23 := rfl
  rw [hz, hw0]
  clear hz hw0
  go_loopw [9] (fun i wr => ∃ k : Nat, k ≤ qs.length ∧ i = .int .i64 k ∧ Below w.heap.size w wr ∧ Hid (PB wr w.heap.size 23 (applyL l (qs.take k)) ∧ PB wr (w.heap.size + 1) 23 zeroL ∧ w.heap.size + 2 ≤ wr.heap.size)) (fun i _ => qs.length - (intOf i).toNat)
  case atStart => exact ⟨0, by omega, rfl, hB0, hP0, hZ0, by omega⟩
  case round =>
    obtain ⟨k, hk, rfl, hb, hH⟩ := hrel
    obtain ⟨hP, hZ, hs⟩ := hH.out
    clear hH
    by_cases hlt : k < qs.length
    · rcases h2 with h2 | ⟨b, o, rfl, hbl, hc⟩
      · rw [h2] at hlt; simp at hlt
      · obtain ⟨c0, c1⟩ := hc k hlt
        have hw : ∀ j v, w.cell? ⟨b, j, none⟩ = some v → wr.cell? ⟨b, j, none⟩ = some v := fun j v hv => by rw [← hv]; exact hb.cell hbl
        have d0 := hw _ _ c0; have d1 := hw _ _ c1
        clear hw c0 c1 hc
        have hn := hq'.out qs[k] (List.getElem_mem hlt)
        have hf := field_yes w.heap.size qs[k].1 hn
        have hst := applyL_step l qs hlt
        generalize qs[k].1 = n at *
        generalize qs[k].2 = x at *
        have hA : Below wr.heap.size wr (wr.alloc (.cells #[.int .i64 n, .int .i64 x] 37)) := (Below.refl _ wr).alloc (Nat.le_refl _) _
        have hP1 := hP.below hA hP.lt
        have hZ1 := hZ.below hA hZ.lt
        have hc1 := hP1.cell (k := n.toNat - 1) (by omega)
        have hfr := hP1.free (n.toNat - 1)
        have hP2 := hP1.store (n.toNat - 1) x
        have hBn := below_setCell (k := n.toNat - 1) (hb.trans (hA.mono hb.size)) (Nat.le_refl w.heap.size) (.int .i64 x)
        have hZ2 : PB ((wr.alloc (.cells #[.int .i64 n, .int .i64 x] 37)).setCell ⟨w.heap.size, n.toNat - 1, none⟩ (.int .i64 x)) (w.heap.size + 1) 23 zeroL := ⟨rfl, (Below.heap_setCell _ _ _ _ (by simp)).trans hZ1.row⟩
        rw [← hst] at hP2
        have hE : Hid _ := And.intro hP2 (And.intro hZ2 hBn)
        clear hP hZ hP1 hP2 hZ1 hZ2 hBn hst hA
        go_wp2_with fail
        go_region_with (go_at_call 34; refine (hf _).mono ?_; rintro e w' ⟨rfl, hww⟩; subst w')
        all_goals
          go_wp2_with fail
          go_roundw
          case rel => exact ⟨k + 1, by omega, by simp, below_drew hE.out.2.2, ⟨hE.out.1.1, hE.out.1.2⟩, ⟨hE.out.2.1.1, hE.out.2.1.2⟩, by simp; omega⟩
          case measure => simp [intOf]; omega
    · obtain rfl : k = qs.length := by omega
      have hl' : (applyL l (qs.take qs.length)).length = 17 := by rw [applyL_length]; exact hl
      have hE : Hid _ := And.intro (hZ.setRow hl') (below_setRow hb (Nat.le_succ w.heap.size) (prC (applyL l (qs.take qs.length))))
      go_wp2_with (first
        | refine wpList_load_row rfl 23 _ rfl w.heap.size rfl 23 _ (0, 0) _ hP.row Try.underlying23 rfl (info23l hl') ?_
        | refine wpList_store_row rfl 23 _ _ rfl (w.heap.size + 1) (prC (applyL l (qs.take qs.length))) rfl rfl 23 _ hZ.row (info23l hl') (by rw [prC_size, prC_size, hl']; rfl) (prC_one _) ?_)
      refine bodyPost_ret (results_cell_row rfl _ _ (w.heap.size + 1) 23 _ (0, 0) _ rfl hE.out.1.row Try.underlying23 rfl (info23l hl')) rfl ?_
      exact ⟨by rw [List.take_length], hE.out.2⟩
end Go.Proofs.Ytifkelpgpdgenaa
