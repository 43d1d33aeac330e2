/-
  What is proved here: what Columns of section answers.
-/
import Derived.Test.YtglgapmjhmeonaaWalkK
import Derived.Laws.MakeOwn
namespace Go.Proofs.Ytglgapmjhmeonaa
open Go.RowKit Go.Shelf

theorem made31 {n : Nat} (h : n ≤ 8) : madeCells (Value.agg #[.int .i64 0, .int .i64 0, .int .i64 0, .int .i64 0]).cells (n * 4) = rcRow (List.replicate n zeroR) := by
  obtain rfl | rfl | rfl | rfl | rfl | rfl | rfl | rfl | rfl : n = 0 ∨ n = 1 ∨ n = 2 ∨ n = 3 ∨ n = 4 ∨ n = 5 ∨ n = 6 ∨ n = 7 ∨ n = 8 := by omega
  all_goals kernel_rfl
theorem make31 {n : Nat} (h : n ≤ 8) (W : World) : (Instr.makeSlice 26 (.int .i64 (n : Int)) (.int .i64 (n : Int))).run Try.prog W = .ok (.slice (some ⟨W.heap.size, 0, none⟩) n n) (W.alloc (.cells (rcRow (List.replicate n zeroR)) 31)) := by
  obtain ⟨i0, hi0, hz0, hz1, hz2⟩ := info_parts info31z
  have := run_makeSlice (P := Try.prog) (w := W) 26 31 i0 _ Try.underlying26 hi0 hz0 .i64 .i64 n n (by omega) (by omega) (by rw [hz1]; omega) (by rw [hz2]; omega) (by omega)
  rw [hz1, Int.toNat_natCast, made31 h] at this
  exact this

def partL (l : List Rc) (k : Nat) : List Rc := l.take k ++ List.replicate (l.length - k) zeroR
theorem partL_len (l : List Rc) {k : Nat} (h : k ≤ l.length) : (partL l k).length = l.length := by simp [partL]; omega
theorem partL_zero (l : List Rc) : partL l 0 = List.replicate l.length zeroR := by simp [partL]
theorem partL_all (l : List Rc) : partL l l.length = l := by simp [partL]
theorem partL_set (l : List Rc) {k : Nat} (h : k < l.length) : (partL l k).set k l[k] = partL l (k + 1) := by
  apply List.ext_getElem
  · rw [List.length_set, partL_len l (by omega), partL_len l (by omega)]
  · intro i h1 h2
    rw [List.getElem_set]
    by_cases hk : k = i
    · subst hk
      rw [if_pos rfl]
      simp only [partL]
      rw [List.getElem_append_left (by simp; omega), List.getElem_take]
    · rw [if_neg hk]
      simp only [partL]
      by_cases hi : i < k
      · rw [List.getElem_append_left (by simp; omega), List.getElem_append_left (by simp; omega), List.getElem_take, List.getElem_take]
      · rw [List.getElem_append_right (by simp; omega), List.getElem_append_right (by simp; omega), List.getElem_replicate, List.getElem_replicate]

theorem heap_setCell_cells {w : World} {b i : Nat} {cs : Array Value} {T : TypeId} {fr : Nat × Nat} (hb : w.heap[b]? = some (.cells cs T fr)) (v : Value) :
    (w.setCell ⟨b, i, none⟩ v).heap[b]? = some (.cells (cs.setIfInBounds i v) T fr) := by
  simp [World.setCell, Array.getElem?_modify, hb]
/-- A rectangle is written over. -/
theorem store4 {w : World} {g k : Nat} {l : List Rc} (h : w.heap[g]? = some (.cells (rcRow l) 31 (0, 0))) (hk : k < l.length) (q : Rc) :
    ((((w.setCell ⟨g, k * 4, none⟩ (.int .i64 q.x)).setCell ⟨g, k * 4 + 1, none⟩ (.int .i64 q.y)).setCell ⟨g, k * 4 + 2, none⟩ (.int .i64 q.w)).setCell ⟨g, k * 4 + 3, none⟩ (.int .i64 q.h)).heap[g]? = some (.cells (rcRow (l.set k q)) 31 (0, 0)) := by
  rw [← rcRow_set l hk q]
  exact heap_setCell_cells (heap_setCell_cells (heap_setCell_cells (heap_setCell_cells h _) _) _) _
theorem below4 {n : Nat} {w0 w : World} (h : Below n w0 w) {g k : Nat} (hg : n ≤ g) (a b c d : Value) : Below n w0 ((((w.setCell ⟨g, k * 4, none⟩ a).setCell ⟨g, k * 4 + 1, none⟩ b).setCell ⟨g, k * 4 + 2, none⟩ c).setCell ⟨g, k * 4 + 3, none⟩ d) :=
  below_setCell (below_setCell (below_setCell (below_setCell h hg _) hg _) hg _) hg _
theorem cells4 {w : World} {g k : Nat} {l : List Rc} (h : w.heap[g]? = some (.cells (rcRow l) 31 (0, 0))) (hk : k < l.length) :
    (w.cell? ⟨g, k * 4, none⟩ = some (.int .i64 l[k].x) ∧ w.cell? ⟨g, k * 4 + 1, none⟩ = some (.int .i64 l[k].y) ∧ w.cell? ⟨g, k * 4 + 2, none⟩ = some (.int .i64 l[k].w) ∧ w.cell? ⟨g, k * 4 + 3, none⟩ = some (.int .i64 l[k].h)) ∧
    (w.frozen? ⟨g, k * 4, none⟩ = false ∧ w.frozen? ⟨g, k * 4 + 1, none⟩ = false ∧ w.frozen? ⟨g, k * 4 + 2, none⟩ = false ∧ w.frozen? ⟨g, k * 4 + 3, none⟩ = false) := by
  have hc : ∀ j v, j < 4 → (rcC l[k])[j]? = some v → w.cell? ⟨g, k * 4 + j, none⟩ = some v := fun j v hj hv => by
    rw [Lib.cell_of_heap h, rcRow_get l hk j hj, hv]
  exact ⟨⟨hc 0 _ (by omega) rfl, hc 1 _ (by omega) rfl, hc 2 _ (by omega) rfl, hc 3 _ (by omega) rfl⟩, Lib.frozen_of_heap h _, Lib.frozen_of_heap h _, Lib.frozen_of_heap h _, Lib.frozen_of_heap h _⟩

set_option maxRecDepth 100000 in
set_option maxHeartbeats 1000000 in
theorem columns_no (s : Sec) (hsm : smB s = true) (page : Int) (h0 : ¬ pageI s page 1 = 0) (w : World) : Calls Try.prog 9 #[seV s, .int .i64 page] w fun e w' => e = .returned (.tuple #[.slice none 0 0, .int .i64 (pageI s page 1)]) ∧ Below w.heap.size w w' := by
  have hB := (Below.refl w.heap.size w).alloc (Nat.le_refl _) (Obj.cells (seC s) 24)
  have hS := SB.new w s
  have hrf : Hid (∀ w, Calls Try.prog 27 #[seV s, .int .i64 page, .int .i64 1] w fun e w' => e = .returned (.int .i64 (pageI s page 1)) ∧ Below w.heap.size w w') := refuse_any s hsm page 1
  clear hsm
  unfold seV
  go_enter Try.func9, Try.ntmps9
  go_wp2_with (refine wpList_load_row rfl 24 _ rfl w.heap.size rfl 24 _ (0, 0) _ hS.row Try.underlying24 rfl (info24 s) ?_)
  refine (hrf.out _).mono ?_
  rintro e w1 ⟨rfl, B1⟩
  have D1 := hB.trans (B1.mono hB.size)
  obtain ⟨E, hE⟩ : ∃ E, pageI s page 1 = E := ⟨_, rfl⟩
  have hE' : Hid (pageI s page 1 = E) := hE
  rw [hE] at h0 ⊢
  clear hE
  go_wp2_with fail
  go_ret2
  exact ⟨by rw [hE'.out]; rfl, D1⟩

set_option maxRecDepth 100000 in
set_option maxHeartbeats 2000000 in
theorem columns_yes (s : Sec) (hsm : smB s = true) (page : Int) (h0 : pageI s page 1 = 0) (w : World) : Calls Try.prog 9 #[seV s, .int .i64 page] w fun e w' => ∃ g, e = .returned (.tuple #[.slice (some ⟨g, 0, none⟩) (colsL s page).length (colsL s page).length, .int .i64 0]) ∧ w.heap.size ≤ g ∧ w'.heap[g]? = some (.cells (rcRow (colsL s page)) 31 (0, 0)) ∧ Below w.heap.size w w' := by
  have hB := (Below.refl w.heap.size w).alloc (Nat.le_refl _) (Obj.cells (seC s) 24)
  have hS := SB.new w s
  have hrf : Hid (∀ w, Calls Try.prog 27 #[seV s, .int .i64 page, .int .i64 1] w fun e w' => e = .returned (.int .i64 (pageI s page 1)) ∧ Below w.heap.size w w') := refuse_any s hsm page 1
  obtain ⟨hm, hp1, hp2⟩ := may_page h0
  have hcol : Hid (∀ k : Nat, k ≤ 8 → ∀ w, Calls Try.prog 28 #[.agg (seC s), .int .i64 page, .int .i64 (k : Int)] w fun e w' => e = .returned (rcV (colR s page k)) ∧ Below w.heap.size w w') := fun k hk => column_any s hm.toNumOk page k (by omega)
  have hcb := hm.cols
  obtain ⟨n, hnc⟩ : ∃ n : Nat, s.cols = n := ⟨s.cols.toNat, by omega⟩
  have hlen0 : (colsL s page).length = n := by rw [colsL_len]; omega
  have hlen : Hid ((colsL s page).length = n) := hlen0
  have hget : Hid (∀ (i : Nat) (h : i < (colsL s page).length), (colsL s page)[i] = colR s page i) := fun i h => colsL_get s page h
  have hmk := make31 (n := n) (by omega)
  rw [h0] at hrf
  rw [hnc] at hcb
  have hnc' : Hid (s.cols = n) := hnc
  clear hsm hm h0 hnc
  rw [hlen0]
  clear hlen0
  unfold seV
  go_enter Try.func9, Try.ntmps9
  go_wp2_with (refine wpList_load_row rfl 24 _ rfl w.heap.size rfl 24 _ (0, 0) _ hS.row Try.underlying24 rfl (info24 s) ?_)
  refine (hrf.out _).mono ?_
  rintro e w1 ⟨rfl, B1⟩
  have hS1 := hS.below B1 hS.lt
  have D1 := hB.trans (B1.mono hB.size)
  have c6 : w1.cell? ⟨w.heap.size, 6, none⟩ = some (.int .i64 (n : Int)) := by rw [← hnc'.out]; exact hS1.c6
  have hmk1 := hmk w1
  have hlt1 := hS1.lt
  have D2 := D1.alloc D1.size (Obj.cells (rcRow (List.replicate n zeroR)) 31)
  have hS2 : Hid (SB (w1.alloc (Obj.cells (rcRow (List.replicate n zeroR)) 31)) w.heap.size s) := ⟨(heap_old w1 _ hlt1).trans hS1.row⟩
  have hG2 : Hid ((w1.alloc (Obj.cells (rcRow (List.replicate n zeroR)) 31)).heap[w1.heap.size]? = some (.cells (rcRow (partL (colsL s page) 0)) 31 (0, 0))) := by show _ = _; rw [partL_zero, hlen.out]; exact heap_new w1 _
  clear hS hB hmk
  go_wp2_with fail
  generalize w1.alloc (Obj.cells (rcRow (List.replicate n zeroR)) 31) = w2 at *
  clear hmk1 c6
  go_loopw [20] (fun i wr => ∃ k : Nat, k ≤ n ∧ i = .int .i64 k ∧ Below w.heap.size w wr ∧ Hid (SB wr w.heap.size s) ∧ Hid (wr.heap[w1.heap.size]? = some (.cells (rcRow (partL (colsL s page) k)) 31 (0, 0)))) (fun i _ => n - (intOf i).toNat)
  case atStart => exact ⟨0, by omega, rfl, D2, hS2, hG2⟩
  case round =>
    obtain ⟨k, hk, rfl, hb, hSr, hG⟩ := hrel
    by_cases hlt : k < n
    · have hltI : (k : Int) < n := by omega
      have hrow := hSr.out.row
      have hck : Hid (∀ w, Calls Try.prog 28 #[.agg (seC s), .int .i64 page, .int .i64 (k : Int)] w fun e w' => e = .returned (rcV (colR s page k)) ∧ Below w.heap.size w w') := hcol.out k (by omega)
      have hl := hlen.out
      have hkl : k < (colsL s page).length := by omega
      have hpl : Hid (k < (partL (colsL s page) k).length) := by show k < _; rw [partL_len _ (by omega)]; exact hkl
      have hset : Hid ((partL (colsL s page) k).set k (colR s page k) = partL (colsL s page) (k + 1)) := by show _ = _; rw [← hget.out k hkl]; exact partL_set _ hkl
      clear hl hkl
      go_wp2_with (refine wpList_load_row rfl 24 _ rfl w.heap.size rfl 24 _ (0, 0) _ hrow Try.underlying24 rfl (info24 s) ?_)
      refine (hck.out _).mono ?_
      rintro e w3 ⟨rfl, B3⟩
      have hb3 := hb.trans (B3.mono hb.size)
      have hS3 : Hid (SB w3 w.heap.size s) := hSr.out.below B3 hSr.out.lt
      have hG3 : w3.heap[w1.heap.size]? = some (.cells (rcRow (partL (colsL s page) k)) 31 (0, 0)) := (B3.block _ (Array.getElem?_eq_some_iff.1 hG.out).1).trans hG.out
      obtain ⟨⟨z0, z1, z2, z3⟩, f0, f1, f2, f3⟩ := cells4 hG3 hpl.out
      have hG4 : Hid _ := store4 hG3 hpl.out (colR s page k)
      rw [hset.out] at hG4
      have hb4 := below4 (k := k) hb3 (g := w1.heap.size) D1.size (.int .i64 (colR s page k).x) (.int .i64 (colR s page k).y) (.int .i64 (colR s page k).w) (.int .i64 (colR s page k).h)
      have hS4 : Hid (SB ((((w3.setCell ⟨w1.heap.size, k * 4, none⟩ (.int .i64 (colR s page k).x)).setCell ⟨w1.heap.size, k * 4 + 1, none⟩ (.int .i64 (colR s page k).y)).setCell ⟨w1.heap.size, k * 4 + 2, none⟩ (.int .i64 (colR s page k).w)).setCell ⟨w1.heap.size, k * 4 + 3, none⟩ (.int .i64 (colR s page k).h)) w.heap.size s) :=
        hS3.out.below (below4 (k := k) (Below.refl (w.heap.size + 1) w3) (g := w1.heap.size) (by omega) _ _ _ _) (by omega)
      clear hG3 hset
      unfold rcV rcC
      go_wp2_with fail
      go_roundw
      case rel => exact ⟨k + 1, by omega, by simp, hb4, hS4, hG4⟩
      case measure => simp [intOf]; omega
    · have hge : ¬ (k : Int) < n := by omega
      have hGn : Hid (wr.heap[w1.heap.size]? = some (.cells (rcRow (colsL s page)) 31 (0, 0))) := by
        have h := hG.out
        have hkn : k = (colsL s page).length := by have := hlen.out; omega
        rw [hkn, partL_all] at h
        exact h
      clear hG
      go_wp2_with fail
      go_ret2
      exact ⟨_, rfl, D1.size, hGn.out, hb⟩
end Go.Proofs.Ytglgapmjhmeonaa
