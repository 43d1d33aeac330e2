/-
  What is proved here: what slices.AppendSeq and slices.Collect answer of a map's names in this program, with what lies behind the list's length (for StyleScript).
-/
import Derived.Test.YtifkelpgpdgenaaXFill
import Derived.Test.YtifkelpgpdgenaaIter
import Derived.Shelf.SlIter.Stops
import Derived.RangeFuncBox
namespace Go.Proofs.Ytifkelpgpdgenaa
open Go.RowKit Go.Shelf Go.Maps Go.Sort
theorem wide_fn (f : FuncId) : Fence.wide.fn f = True := rfl
theorem wide_depth : Fence.wide.depth = none := rfl
attribute [local go_sem] Oper.semAt_some wide_fn wide_depth
theorem row_some {W : World} {base : Nat} {v : Value} {n : Nat} {xs : List Value} (h : W.ownsRow base 9 1 v (n + 1) xs) : ∃ g cap, v = .slice (some ⟨g, 0, none⟩) (n + 1) cap := by
  rcases h.2 with ⟨_, h0⟩ | ⟨g, cap, cur, e, _⟩
  · exact absurd h0 (by omega)
  · exact ⟨g, cap, e⟩

theorem Fill.same {W W' : World} {v : Value} {xs : List Value} (h : Fill W v xs) (hs : ∀ g, v.ownBlock = some g → W'.heap[g]? = W.heap[g]?) : Fill W' v xs := fun g n cap cur e hg => by
  subst e
  rw [hs g rfl] at hg
  exact h g n cap cur rfl hg
theorem row_cells {W : World} {base : Nat} {v : Value} {n : Nat} {xs : List Value} (h : W.ownsRow base 9 1 v n xs) {g : Nat} (hg : v.ownBlock = some g) : ∃ cur, W.heap[g]? = some (.cells cur 9 (0, 0)) := by
  rcases h.2 with ⟨rfl, _⟩ | ⟨g', cap, cur, rfl, _, hb, _⟩
  · cases hg
  · cases hg; exact ⟨cur, hb⟩
theorem info9s : (Try.prog.info? 9).map (fun i => (i.zero, i.size, i.bytes)) = some (some (.string ⟨#[]⟩), 1, 16) := by kernel_rfl

/-- What is so between two rounds: the box holds the row of what has come. -/
def Come (w : World) (B : Nat) (ss : List (List UInt8)) (W : World) : Prop :=
  (∃ v, W.heap[B]? = some (.cells #[v] 65 (0, 0)) ∧ W.ownsRow w.heap.size 9 1 v ss.length (ss.map encStr) ∧ Fill W v (ss.map encStr)) ∧ Below w.heap.size w W

theorem Come.own {w : World} {B N : Nat} (hN : w.heap.size ≤ N) : OwnFrom N (Come w B) := fun ss W W' row h hg hr => by
  obtain ⟨⟨v, hv, hrow, hf⟩, hb⟩ := h
  have hr' : ∀ r, row = some r → ∃ o : Obj, W.heap[r]? = some o ∧ o.isCells = false := fun r e => (hr r e).2
  have hk : ∀ g, v.ownBlock = some g → W'.heap[g]? = W.heap[g]? := fun g e => by
    obtain ⟨cur, hc⟩ := row_cells hrow e
    exact grownBy_keeps_cells hg hr' hc rfl
  refine ⟨⟨v, (grownBy_keeps_cells hg hr' hv rfl).trans hv, hrow.kept hg ?_, hf.same hk⟩, hb.grown hg hb.size (fun k e => Nat.le_trans hN (hr k e).1)⟩
  rcases e : v.ownBlock with _ | g
  · exact .inl rfl
  · refine .inr fun e' => ?_
    obtain ⟨cur, hc⟩ := row_cells hrow e
    obtain ⟨o, ho, hno⟩ := hr' g e'.symm
    rw [hc] at ho
    cases ho
    cases hno

theorem box_cell {W : World} {B : Nat} {v : Value} {t : TypeId} (h : W.heap[B]? = some (.cells #[v] t (0, 0))) : W.cell? ⟨B, 0, none⟩ = some v ∧ W.frozen? ⟨B, 0, none⟩ = false := ⟨by rw [Lib.cell_of_heap h]; rfl, Lib.frozen_of_heap h 0⟩

theorem setCell_box {W : World} {B : Nat} {v : Value} {t : TypeId} (u : Value) (h : W.heap[B]? = some (.cells #[v] t (0, 0))) : (W.setCell ⟨B, 0, none⟩ u).heap[B]? = some (.cells #[u] t (0, 0)) := heap_setCell_same W B 0 #[v] t u h

set_option maxRecDepth 100000 in
set_option maxHeartbeats 2000000 in
theorem appendSeq_fill {H : Type} (Bm b nn : Nat) (D0 : DataW H) (R : Value → Option (DataW H × List MemPlace)) (w : World) (hBm : Bm < w.heap.size) (hm : w.cell? ⟨Bm, 0, none⟩ = some (.map (some b))) (hown : w.ownsMap Try.prog 9 R b nn D0) (hmax : Maps.size D0 ≤ maxLen) (hbytes : Maps.size D0 * 16 ≤ 140737488355328) :
    Calls Try.prog 64 #[.slice none 0 0, .func (.func 62) #[] #[.pointer (some ⟨Bm, 0, none⟩)]] w fun e w' => ∃ (v : Value) (ss : List (List UInt8)), e = .returned v ∧ ss.Perm (strKeys D0) ∧ w'.ownsRow w.heap.size 9 1 v ss.length (ss.map encStr) ∧ Fill w' v (ss.map encStr) ∧ Below w.heap.size w w' := by
  obtain ⟨i0, hi, hz0, hz1, hz2⟩ := info_parts info9s
  refine (callsIn_wide (n := 5)).1 ?_
  refine callsIn_of_wp_marks Try.func64 rfl trivial ?_ rfl
  simp only [Try.ntmps64, List.size_toArray, List.length_cons, List.length_nil, Nat.reduceAdd, Nat.reduceSub, Array.replicate_succ, Array.replicate_zero, List.push_toArray, List.append_toArray, List.nil_append, List.cons_append]
  gi_wp2
  obtain ⟨W0, hW0⟩ : ∃ W0, w.alloc (.cells #[.slice none 0 0] 65) = W0 := ⟨_, rfl⟩
  have hs0 : W0.heap.size = w.heap.size + 1 := by rw [← hW0]; simp
  have hv0 : W0.heap[w.heap.size]? = some (.cells #[.slice none 0 0] 65 (0, 0)) := by rw [← hW0]; exact World.alloc_heap_new w _
  have hb0 : Below w.heap.size w W0 := by rw [← hW0]; exact (Below.refl _ w).alloc (Nat.le_refl _) _
  have hown0 : W0.ownsMap Try.prog 9 R b nn D0 := by
    have hbl := hown.lt
    obtain ⟨es, clock, hb, Ft, hs, hD⟩ := hown
    exact ⟨es, clock, (hb0.block b hbl).trans hb, Ft, hs, hD⟩
  rw [hW0]
  refine wpIn_rangeFunc_ownF rfl (by omega) (gf := 62) (lb := #[.pointer (some ⟨Bm, 0, none⟩)]) rfl trivial (enters_of Try.func62 (by kernel_rfl) rfl)
    (AnyZ.keys_stops (ρ := Try.keys52_ren) { Try.keys52 with } Fence.wide _ trivial rfl (by omega) Bm b nn D0 W0 (by omega) ((hb0.cell (p := ⟨Bm, 0, none⟩) hBm).trans hm) hown0) walksK_t walksK_b (Below.refl _ _) (fun _ => rfl)
    (Come w w.heap.size) (fun _ _ _ => False) (Come.own (by omega)) (fun _ _ _ _ _ h => h.elim)
    ⟨⟨_, hv0, World.ownsRow_nil _ _ _ _, fun g n cap cur e => by cases e⟩, hb0⟩
    (fun x => { tmps := #[.slice none 0 0, .func (.func 62) #[] #[.pointer (some ⟨Bm, 0, none⟩)], .pointer (some ⟨w.heap.size, 0, none⟩), undef, .slice none 0 0, encStr x, .func (.func 62) #[] #[.pointer (some ⟨Bm, 0, none⟩)], encStr x, undef, undef, undef, undef, undef], defers := [] }) ?assign ?body ?done ?stop
  case assign =>
    intro l x W K hK
    gi_wp2
    exact hK
  case body =>
    rintro l pre x W ⟨⟨v, hv, hrow, hf⟩, hb⟩ hlen
    obtain ⟨hc, hfz⟩ := box_cell hv
    have hbs := hb.size
    have hBl : w.heap.size < W.heap.size := (Array.getElem?_eq_some_iff.1 hv).1
    have hfa : Fill (W.alloc (.cells #[encStr x] 9)) v (pre.map encStr) := hf.same fun g e => by
      obtain ⟨cur, hcur⟩ := row_cells hrow e
      exact Below.heap_alloc _ _ _ (Array.getElem?_eq_some_iff.1 hcur).1
    have hnb : some w.heap.size ≠ v.ownBlock := fun e => by
      obtain ⟨cur, hcur⟩ := row_cells hrow e.symm
      rw [hv] at hcur
      cases hcur
    gi_wp2_with (gi_at_builtin; refine wpListIn_append_fill _ rfl _ _ 65 rfl w.heap.size i0 Try.underlying65 hi hz0 hz1 hz2 v _ _ rfl (hrow.alloc _) hfa ⟨W.heap.size, 0, none⟩ 1 (encStr x) rfl (box_cell (World.alloc_heap_new W _)).1 rfl (by omega) (by omega) (by simp; omega) ?_; intro v' w3 hown' hg3 hf3; have hv3 : w3.heap[w.heap.size]? = some (.cells #[v] 65 (0, 0)) := (hg3.block _ (by simp; omega) hnb).trans ((Below.heap_alloc _ _ _ hBl).trans hv); obtain ⟨hc3, hfz3⟩ := box_cell hv3; obtain ⟨g', cap', rfl⟩ := row_some hown')
    have hk3 : KeepsOthers W w3 := (KeepsOthers.alloc W _).trans (KeepsOthers.of_grownBy hg3 fun j o e ho => by
      obtain ⟨cur, hcur⟩ := row_cells (hrow.alloc (.cells #[encStr x] 9)) e
      rw [ho] at hcur
      cases hcur
      rfl)
    have hko := hk3.trans (KeepsOthers.setCell w3 ⟨w.heap.size, 0, none⟩ (.slice (some ⟨g', 0, none⟩) (pre.length + 1) cap'))
    have hb3 : Below w.heap.size w w3 := (hb.alloc hbs _).grown hg3 (by simp; omega) (fun k e => (hrow.lt k e).1)
    have hgb : g' ≠ w.heap.size := fun e => by
      obtain ⟨cur, hcur⟩ := row_cells hown' (g := g') rfl
      rw [e, hv3] at hcur
      cases hcur
    have hrow4 := hown'.kept (grownBy_setCell' w3 w.heap.size (.slice (some ⟨g', 0, none⟩) (pre.length + 1) cap')) (.inr fun e => hgb (by simpa [Value.ownBlock] using e))
    have hf4 : Fill (w3.setCell ⟨w.heap.size, 0, none⟩ (.slice (some ⟨g', 0, none⟩) (pre.length + 1) cap')) (.slice (some ⟨g', 0, none⟩) (pre.length + 1) cap') (pre.map encStr ++ [encStr x]) := hf3.same fun g e => by
      cases e
      exact Below.heap_setCell _ _ _ _ hgb
    refine ⟨hko, hko.walks, ⟨_, setCell_box _ hv3, ?_, ?_⟩, hb3.setCell (p := ⟨w.heap.size, 0, none⟩) (Nat.le_refl _) _⟩
    · rw [List.map_append, List.length_append]; exact hrow4
    · rw [List.map_append]; exact hf4
  case done =>
    rintro D xs W hD ⟨hS, _⟩ ⟨⟨v, hv, hrow, hf⟩, hb⟩ hK
    obtain ⟨hc, hfz⟩ := box_cell hv
    gi_wp2
    refine ⟨by simp, .inl ⟨_, _, rfl, run_takeDeferred hK, ?_⟩⟩
    have hgr := grownBy_putObj' W D (.deferred none)
    have hnc : ∀ g, v.ownBlock = some g → g ≠ D := fun g e e' => by
      obtain ⟨cur, hcur⟩ := row_cells hrow e
      rw [e', hK] at hcur
      cases hcur
    refine ⟨_, results_tmp rfl _ _ _, v, xs, rfl, hS, hrow.kept hgr ?_, hf.same fun g e => World.putObj_heap_other (hnc g e), hb.grown hgr hb.size (fun k e => by cases e; omega)⟩
    rcases e : v.ownBlock with _ | g
    · exact .inl rfl
    · exact .inr fun e' => by cases e'; exact hnc D e rfl
  case stop =>
    rintro D c pre W _ _ h _
    exact h.elim
end Go.Proofs.Ytifkelpgpdgenaa
