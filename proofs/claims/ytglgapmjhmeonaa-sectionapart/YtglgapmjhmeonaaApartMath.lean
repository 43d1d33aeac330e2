/-
  What is proved here: where the columns of a page, its header and its footer lie (no function of the program is named).
-/
import Derived.Test.YtglgapmjhmeonaaRegE
namespace Go.Proofs.Ytglgapmjhmeonaa
open Go.RowKit Go.Shelf

theorem span_in {s : Sec} (h : May s) (page : Int) : 10 ≤ wideI s ∧ 0 ≤ leftI s page ∧ leftI s page + spanI s ≤ s.w ∧ s.inner + s.outer ≤ s.w - spanI s ∧ s.w - spanI s < s.inner + s.outer + s.cols ∧ 0 ≤ spanI s := by
  obtain ⟨h1, h2, h3⟩ := wide_of_may h
  have hl : 0 ≤ leftI s page ∧ leftI s page ≤ s.inner + s.outer := by
    have := h.inner; have := h.outer
    unfold leftI; split <;> omega
  have hg := gaps_le h.toNumOk
  have e1 : spanI s = wideI s * s.cols + s.gap * (s.cols - 1) := by unfold spanI; rw [Int.mul_comm s.cols, Int.mul_comm (s.cols - 1)]
  have h0 : 0 ≤ wideI s * s.cols := Int.mul_nonneg (by omega) (by have := h.cols; omega)
  unfold roomI at h2 h3
  omega
theorem col_end {s : Sec} (h : May s) (page : Int) {i : Nat} (hi : (i : Int) < s.cols) : leftI s page ≤ (colR s page i).x ∧ (colR s page i).x + wideI s ≤ leftI s page + spanI s := by
  obtain ⟨h1, _⟩ := span_in h page
  have hg := h.gap
  show leftI s page ≤ leftI s page + i * (wideI s + s.gap) ∧ leftI s page + i * (wideI s + s.gap) + wideI s ≤ leftI s page + spanI s
  have m1 : 0 ≤ (i : Int) * (wideI s + s.gap) := Int.mul_nonneg (by omega) (by omega)
  have m2 : (i : Int) * (wideI s + s.gap) ≤ (s.cols - 1) * (wideI s + s.gap) := Int.mul_le_mul_of_nonneg_right (by omega) (by omega)
  have e : spanI s = (s.cols - 1) * (wideI s + s.gap) + wideI s := by
    unfold spanI
    have e1 := Int.sub_mul s.cols 1 (wideI s)
    rw [Int.one_mul] at e1
    rw [Int.mul_add]; omega
  omega
theorem col_last {s : Sec} (page : Int) {i : Nat} (hi : (i : Int) = s.cols - 1) : (colR s page i).x + wideI s = leftI s page + spanI s := by
  show leftI s page + i * (wideI s + s.gap) + wideI s = leftI s page + spanI s
  have e : spanI s = (s.cols - 1) * (wideI s + s.gap) + wideI s := by
    unfold spanI
    have e1 := Int.sub_mul s.cols 1 (wideI s)
    rw [Int.one_mul] at e1
    rw [Int.mul_add]; omega
  rw [hi, e]; omega
theorem col_next (s : Sec) (page : Int) (i : Nat) : (colR s page (i + 1 : Nat)).x = (colR s page i).x + (colR s page i).w + s.gap := by
  show leftI s page + ((i + 1 : Nat) : Int) * (wideI s + s.gap) = leftI s page + i * (wideI s + s.gap) + wideI s + s.gap
  rw [Int.natCast_add, Int.add_mul]
  omega
theorem col_zero (s : Sec) (page : Int) : (colR s page (0 : Nat)).x = leftI s page := by
  show leftI s page + ((0 : Nat) : Int) * (wideI s + s.gap) = leftI s page
  simp
def allR (s : Sec) : Rc := ⟨0, 0, s.w, s.h⟩
theorem col_within {s : Sec} (h : May s) (page : Int) {i : Nat} (hi : (i : Int) < s.cols) (w : World) : Calls Try.prog 26 #[.agg (rcC (colR s page i)), .agg (rcC (allR s))] w fun e w' => e = .returned (.bool true) ∧ Below w.heap.size w w' := by
  obtain ⟨h1, h2, h3, _⟩ := span_in h page
  obtain ⟨q1, q2⟩ := col_end h page hi
  have hh := h.high; have b1 := h.h; have b2 := h.top; have b3 := h.bottom; have b4 := h.w
  unfold highI at hh
  have hx : (colR s page i).w = wideI s ∧ (colR s page i).y = s.top ∧ (colR s page i).h = s.h - s.top - s.bottom := ⟨rfl, rfl, rfl⟩
  have ha : (allR s).x = 0 ∧ (allR s).y = 0 ∧ (allR s).w = s.w ∧ (allR s).h = s.h := ⟨rfl, rfl, rfl, rfl⟩
  exact within_yes _ _ (by omega) (by omega) (by omega) (by omega) (by omega) (by omega) (by omega) (by omega) w
def topR (s : Sec) : Rc := ⟨0, 0, s.w, s.top⟩
def lowR (s : Sec) : Rc := ⟨0, s.h - s.bottom, s.w, s.bottom⟩
theorem head_within {s : Sec} (h : May s) (page : Int) (w : World) : Calls Try.prog 26 #[.agg (rcC (headR s page)), .agg (rcC (topR s))] w fun e w' => e = .returned (.bool true) ∧ Below w.heap.size w w' := by
  obtain ⟨h1, h2, h3, _, _, h6⟩ := span_in h page
  have b1 := h.h; have b2 := h.top; have b3 := h.bottom; have b4 := h.w
  have hb := half_bounds b2
  have hx : (headR s page).x = leftI s page ∧ (headR s page).y = s.top.tdiv 2 ∧ (headR s page).w = spanI s ∧ (headR s page).h = s.top - s.top.tdiv 2 := ⟨rfl, rfl, rfl, rfl⟩
  have ha : (topR s).x = 0 ∧ (topR s).y = 0 ∧ (topR s).w = s.w ∧ (topR s).h = s.top := ⟨rfl, rfl, rfl, rfl⟩
  exact within_yes _ _ (by omega) (by omega) (by omega) (by omega) (by omega) (by omega) (by omega) (by omega) w
theorem foot_within {s : Sec} (h : May s) (page : Int) (w : World) : Calls Try.prog 26 #[.agg (rcC (footR s page)), .agg (rcC (lowR s))] w fun e w' => e = .returned (.bool true) ∧ Below w.heap.size w w' := by
  obtain ⟨h1, h2, h3, _, _, h6⟩ := span_in h page
  have b1 := h.h; have b2 := h.top; have b3 := h.bottom; have b4 := h.w
  have hb := half_bounds b3
  have hx : (footR s page).x = leftI s page ∧ (footR s page).y = s.h - s.bottom ∧ (footR s page).w = spanI s ∧ (footR s page).h = s.bottom.tdiv 2 := ⟨rfl, rfl, rfl, rfl⟩
  have ha : (lowR s).x = 0 ∧ (lowR s).y = s.h - s.bottom ∧ (lowR s).w = s.w ∧ (lowR s).h = s.bottom := ⟨rfl, rfl, rfl, rfl⟩
  exact within_yes _ _ (by omega) (by omega) (by omega) (by omega) (by omega) (by omega) (by omega) (by omega) w
theorem row_cells {W : World} {G : Nat} {s : Sec} {page : Int} (h : W.heap[G]? = some (.cells (rcRow (colsL s page)) 31 (0, 0))) : ∀ i : Nat, i < (colsL s page).length → W.cell? ⟨G, i * 4, none⟩ = some (.int .i64 (colR s page i).x) ∧ W.cell? ⟨G, i * 4 + 1, none⟩ = some (.int .i64 (colR s page i).y) ∧ W.cell? ⟨G, i * 4 + 2, none⟩ = some (.int .i64 (colR s page i).w) ∧ W.cell? ⟨G, i * 4 + 3, none⟩ = some (.int .i64 (colR s page i).h) := fun i hi => by
  have hc : ∀ j v, j < 4 → (rcC (colR s page i))[j]? = some v → W.cell? ⟨G, i * 4 + j, none⟩ = some v := fun j v hj hv => by
    rw [Lib.cell_of_heap h, rcRow_get (colsL s page) hi j hj, colsL_get, hv]
  exact ⟨hc 0 _ (by omega) rfl, hc 1 _ (by omega) rfl, hc 2 _ (by omega) rfl, hc 3 _ (by omega) rfl⟩
end Go.Proofs.Ytglgapmjhmeonaa
