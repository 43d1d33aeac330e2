/-
  What is proved here: the document's looks in memory; what its span and At answer (for SpanScript).
-/
import Derived.Test.YtjakmekifpbldaaWalkS
namespace Go.Proofs.Ytjakmekifpbldaa
open Go.RowKit Go.Shelf

/-- The document's looks: byte by byte, and what is kept in mind. -/
structure RefAt (t : Nat) (v : Value) (L : List Ch) (m : Ch) (W : World) : Prop where
  obj : W.heap[t]? = some (.cells #[v, .int .i64 m.s, .int .i64 m.t, .int .i64 m.k] 68 (0, 0))
  row : CharsAt W 0 v L
  few : L.length ≤ 4096
theorem RefAt.lt {t : Nat} {v : Value} {L : List Ch} {m : Ch} {W : World} (h : RefAt t v L m W) : t < W.heap.size := (Array.getElem?_eq_some_iff.1 h.obj).1
theorem RefAt.below {t : Nat} {v : Value} {L : List Ch} {m : Ch} {W W' : World} (h : RefAt t v L m W) (hb : Below W.heap.size W W') : RefAt t v L m W' :=
  ⟨(hb.block t h.lt).trans h.obj, h.row.below hb, h.few⟩
theorem RefAt.cells {t : Nat} {v : Value} {L : List Ch} {m : Ch} {W : World} (h : RefAt t v L m W) :
    W.cell? ⟨t, 0, none⟩ = some v ∧ W.cell? ⟨t, 1, none⟩ = some (.int .i64 m.s) ∧ W.cell? ⟨t, 2, none⟩ = some (.int .i64 m.t) ∧ W.cell? ⟨t, 3, none⟩ = some (.int .i64 m.k) := by
  refine ⟨?_, ?_, ?_, ?_⟩ <;> (rw [Lib.cell_of_heap h.obj]; rfl)
/-- The bytes lie in no object. -/
theorem CharsAt.apart {W : World} {b g : Nat} {v : Value} {L : List Ch} {cs : Array Value} {ty : TypeId} {fr : Nat × Nat} (h : CharsAt W b v L) (hg : W.heap[g]? = some (.cells cs ty fr)) (hty : ty ≠ 23) : ∀ k, v.ownBlock = some k → k ≠ g := by
  intro k hk e
  subst e
  rcases h.out.2 with ⟨rfl, _⟩ | ⟨g', cap', cur, rfl, _, hg', _⟩
  · cases hk
  · cases hk
    rw [hg] at hg'
    injection hg' with this
    injection this with _ h2 _
    exact hty h2
theorem CharsAt.keep {W W' : World} {b t : Nat} {v : Value} {L : List Ch} (h : CharsAt W b v L) (ho : Only t W W') (ht : ∀ k, v.ownBlock = some k → k ≠ t) : CharsAt W' b v L := by
  refine ⟨h.out.1, ?_⟩
  rcases h.out.2 with hn | ⟨g, cap, cur, rfl, hb', hg, r⟩
  · exact .inl hn
  · exact .inr ⟨g, cap, cur, rfl, hb', (ho.block g (Array.getElem?_eq_some_iff.1 hg).1 (by
      intro e
      have e' : g = t := by injection e
      exact ht g rfl e')).trans hg, r⟩
theorem RefAt.only {t t2 : Nat} {v : Value} {L : List Ch} {m : Ch} {W W' : World} {cs : Array Value} {ty : TypeId} {fr : Nat × Nat} (h : RefAt t v L m W) (ho : Only t2 W W') (hne : t ≠ t2) (hg : W.heap[t2]? = some (.cells cs ty fr)) (hty : ty ≠ 23) : RefAt t v L m W' :=
  ⟨(ho.block t h.lt (by simp; exact hne)).trans h.obj, h.row.keep ho (h.row.apart hg hty), h.few⟩

set_option maxHeartbeats 1000000 in
theorem rspan_yes (t : Nat) (v : Value) (L : List Ch) (m : Ch) (p n : Nat) (hp : p + n ≤ L.length) (w : World) (h : RefAt t v L m w) :
    Calls Try.prog 48 #[.pointer (some ⟨t, 0, none⟩), .int .i64 p, .int .i64 n] w fun e w' => e = .returned (.bool true) ∧ w' = w := by
  have hfew := h.few
  obtain ⟨c0, _, _, _⟩ := h.cells
  obtain ⟨a0, cp0, rfl⟩ := h.row.form
  clear h
  generalize L.length = k at *
  have e1 : (p : Int) ≤ k := by omega
  have e2 : (n : Int) ≤ (k : Int) - p := by omega
  go_enter Try.func48, Try.ntmps48
  go_wp2_with fail
  go_ret
  exact ⟨rfl, rfl⟩
set_option maxHeartbeats 1000000 in
theorem rspan_no (t : Nat) (v : Value) (L : List Ch) (m : Ch) (a b : Int) (hx : a < 0 ∨ b < 0 ∨ (L.length : Int) < a ∨ (L.length : Int) - a < b) (w : World) (h : RefAt t v L m w) :
    Calls Try.prog 48 #[.pointer (some ⟨t, 0, none⟩), .int .i64 a, .int .i64 b] w fun e w' => e = .returned (.bool false) ∧ w' = w := by
  have hfew := h.few
  obtain ⟨c0, _, _, _⟩ := h.cells
  obtain ⟨a0, cp0, rfl⟩ := h.row.form
  clear h
  generalize L.length = k at *
  by_cases h1 : a < 0
  · clear hx
    go_enter Try.func48, Try.ntmps48
    go_wp2_with fail
    go_ret
    exact ⟨rfl, rfl⟩
  · by_cases h2 : b < 0
    · clear hx
      have h1' : 0 ≤ a := by omega
      clear h1
      go_enter Try.func48, Try.ntmps48
      go_wp2_with fail
      go_ret
      exact ⟨rfl, rfl⟩
    · have h1' : 0 ≤ a := by omega
      have h2' : 0 ≤ b := by omega
      by_cases h3 : (k : Int) < a
      · clear h1 h2 hx
        go_enter Try.func48, Try.ntmps48
        go_wp2_with fail
        go_ret
        exact ⟨rfl, rfl⟩
      · have h4 : (k : Int) - a < b := by omega
        have h3' : a ≤ k := by omega
        clear h1 h2 h3 hx
        have h5 : decide (b ≤ (k : Int) - a) = false := decide_eq_false (by omega)
        go_enter Try.func48, Try.ntmps48
        go_wp2_with fail
        go_ret
        exact ⟨rfl, rfl⟩

set_option maxHeartbeats 1000000 in
theorem rat_range (t : Nat) (v : Value) (L : List Ch) (m : Ch) (a : Int) (hx : a < 0 ∨ (L.length : Int) ≤ a) (w : World) (h : RefAt t v L m w) :
    Calls Try.prog 39 #[.pointer (some ⟨t, 0, none⟩), .int .i64 a] w fun e w' => e = .returned (.tuple #[chV ⟨0, 0, 0⟩, .int .i64 5]) ∧ Below w.heap.size w w' := by
  have hB := (Below.refl w.heap.size w).alloc (Nat.le_refl _) (.cells #[.int .i64 0, .int .i64 0, .int .i64 0] 23)
  obtain ⟨c0, _, _, _⟩ := (h.below hB).cells
  obtain ⟨a0, cp0, rfl⟩ := h.row.form
  have hlt := h.lt
  clear h
  unfold chV
  generalize L.length = k at *
  by_cases h1 : a < 0
  · clear hx
    go_enter Try.func39, Try.ntmps39
    go_wp2_with fail
    refine bodyPost_ret (results_cell_row2 rfl _ _ w.heap.size 23 _ (0, 0) _ rfl (heap_new w _) Try.underlying23 rfl (by kernel_rfl)) rfl ?_
    exact ⟨rfl, hB⟩
  · have h2 : (k : Int) ≤ a := by omega
    have h1' : 0 ≤ a := by omega
    clear h1 hx
    go_enter Try.func39, Try.ntmps39
    go_wp2_with fail
    refine bodyPost_ret (results_cell_row2 rfl _ _ w.heap.size 23 _ (0, 0) _ rfl (heap_new w _) Try.underlying23 rfl (by kernel_rfl)) rfl ?_
    exact ⟨rfl, hB⟩
set_option maxHeartbeats 1000000 in
theorem rat_ok (t : Nat) (v : Value) (L : List Ch) (m : Ch) (p : Nat) (hp : p < L.length) (w : World) (h : RefAt t v L m w) :
    Calls Try.prog 39 #[.pointer (some ⟨t, 0, none⟩), .int .i64 p] w fun e w' => e = .returned (.tuple #[chV L[p], .int .i64 0]) ∧ Below w.heap.size w w' := by
  have hfew := h.few
  have hB := (Below.refl w.heap.size w).alloc (Nat.le_refl _) (.cells #[.int .i64 0, .int .i64 0, .int .i64 0] 23)
  obtain ⟨c0, _, _, _⟩ := (h.below hB).cells
  obtain ⟨g, cp, rfl, hg, d0, d1, d2⟩ := (h.row.below hB).cells hp
  have hlt := h.lt
  clear h
  unfold chV
  generalize L[p] = c at *
  generalize L.length = k at *
  go_enter Try.func39, Try.ntmps39
  go_wp2_with fail
  all_goals first
    | (exfalso; omega)
    | (refine bodyPost_ret (results_cell_row2 rfl _ _ w.heap.size 23 _ (0, 0) _ rfl (heap_new w _) Try.underlying23 rfl (by kernel_rfl)) rfl ?_
       exact ⟨rfl, (Below.refl w.heap.size w).alloc (Nat.le_refl _) _⟩)
end Go.Proofs.Ytjakmekifpbldaa
