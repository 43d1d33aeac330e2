/-
  What is proved here: what sizes and column of section answer, and the document's span, Head, Foot.
-/
import Derived.Test.YtglgapmjhmeonaaRegA
namespace Go.Proofs.Ytglgapmjhmeonaa
open Go.RowKit Go.Shelf

set_option maxHeartbeats 1000000 in
theorem sizes_any (s : Sec) (h : NumOk s) (w : World) : Calls Try.prog 32 #[seV s] w fun e w' => ∃ b, e = .returned (.slice (some ⟨b, 0, none⟩) 2 2) ∧ BdsAt w' b (sizL s) ∧ Below w.heap.size w w' := by
  have hB := (Below.refl w.heap.size w).alloc (Nat.le_refl _) (Obj.cells (seC s) 24)
  have hP := SB.new w s
  unfold seV
  go_enter Try.func32, Try.ntmps32
  go_wp2_with fail
  refine sizes_region _ (fun _ _ _ _ _ h => h) _ _ _ _ w.heap.size s h _ hP ?_
  intro b w' B1 hb
  unfold fr32
  go_wp2_with fail
  go_ret
  exact ⟨_, rfl, hb, hB.trans (B1.mono hB.size)⟩

set_option maxHeartbeats 1000000 in
theorem span_any (s : Sec) (h : NumOk s) (w : World) : Calls Try.prog 38 #[seV s] w fun e w' => e = .returned (.int .i64 (spanI s)) ∧ Below w.heap.size w w' := by
  have hB := (Below.refl w.heap.size w).alloc (Nat.le_refl _) (Obj.cells (seC s) 24)
  have hP := SB.new w s
  unfold seV
  go_enter Try.func38, Try.ntmps38
  go_wp2_with fail
  refine span_region _ (fun _ _ _ _ _ h => h) _ _ w.heap.size s h _ hP ?_
  intro w' B1
  unfold fr38
  go_wp2_with fail
  go_ret
  exact ⟨rfl, hB.trans (B1.mono hB.size)⟩

def headR (s : Sec) (page : Int) : Rc := ⟨leftI s page, s.top.tdiv 2, spanI s, s.top - s.top.tdiv 2⟩
def footR (s : Sec) (page : Int) : Rc := ⟨leftI s page, s.h - s.bottom, spanI s, s.bottom.tdiv 2⟩
def colR (s : Sec) (page i : Int) : Rc := ⟨leftI s page + i * (wideI s + s.gap), s.top, wideI s, highI s⟩
theorem heap_old (w : World) (o : Obj) {k : Nat} (h : k < w.heap.size) : (w.alloc o).heap[k]? = w.heap[k]? := by show (w.heap.push o)[k]? = _; rw [Array.getElem?_push, if_neg (Nat.ne_of_lt h)]

theorem two_new (w : World) (s : Sec) : SB ((w.alloc (.cells (seC s) 24)).alloc (.cells #[.int .i64 0, .int .i64 0, .int .i64 0, .int .i64 0] 31)) w.heap.size s ∧ RB ((w.alloc (.cells (seC s) 24)).alloc (.cells #[.int .i64 0, .int .i64 0, .int .i64 0, .int .i64 0] 31)) (w.heap.size + 1) ∧ Below w.heap.size w ((w.alloc (.cells (seC s) 24)).alloc (.cells #[.int .i64 0, .int .i64 0, .int .i64 0, .int .i64 0] 31)) :=
  ⟨⟨(heap_old _ _ (by simp)).trans (heap_new w _)⟩, ⟨_, _, _, _, heap_new2 w _ _⟩, ((Below.refl _ w).alloc (Nat.le_refl _) _).alloc (by simp) _⟩

set_option maxHeartbeats 1000000 in
theorem rhead_any (s : Sec) (h : NumOk s) (page : Int) (w : World) : Calls Try.prog 19 #[seV s, .int .i64 page] w fun e w' => e = .returned (rcV (headR s page)) ∧ Below w.heap.size w w' := by
  obtain ⟨hS, hR, hB⟩ := two_new w s
  unfold seV
  go_enter Try.func19, Try.ntmps19
  go_wp2_with fail
  refine rhead_region _ (fun _ _ _ _ _ h => h) _ _ w.heap.size w.heap.size (w.heap.size + 1) s page h (span_any s h) _ hS hR (by omega) (by omega) hB.size ?_
  intro w' B1 hG
  unfold fr19
  go_wp2_with fail
  refine bodyPost_ret (results_cell_row rfl _ _ (w.heap.size + 1) 31 _ (0, 0) _ rfl hG Try.underlying31 rfl (info31 _)) rfl ?_
  exact ⟨rfl, hB.trans B1⟩

set_option maxHeartbeats 1000000 in
theorem rfoot_any (s : Sec) (h : NumOk s) (page : Int) (w : World) : Calls Try.prog 20 #[seV s, .int .i64 page] w fun e w' => e = .returned (rcV (footR s page)) ∧ Below w.heap.size w w' := by
  obtain ⟨hS, hR, hB⟩ := two_new w s
  unfold seV
  go_enter Try.func20, Try.ntmps20
  go_wp2_with fail
  refine rfoot_region _ (fun _ _ _ _ _ h => h) _ _ w.heap.size w.heap.size (w.heap.size + 1) s page h (span_any s h) _ hS hR (by omega) (by omega) hB.size ?_
  intro w' B1 hG
  unfold fr20
  go_wp2_with fail
  refine bodyPost_ret (results_cell_row rfl _ _ (w.heap.size + 1) 31 _ (0, 0) _ rfl hG Try.underlying31 rfl (info31 _)) rfl ?_
  exact ⟨rfl, hB.trans B1⟩

set_option maxHeartbeats 1000000 in
theorem column_any (s : Sec) (h : NumOk s) (page i : Int) (hi : 0 ≤ i ∧ i ≤ 8) (w : World) : Calls Try.prog 28 #[seV s, .int .i64 page, .int .i64 i] w fun e w' => e = .returned (rcV (colR s page i)) ∧ Below w.heap.size w w' := by
  obtain ⟨hS, hR, hB⟩ := two_new w s
  have hw := wide_any s h
  unfold seV at *
  go_enter Try.func28, Try.ntmps28
  go_wp2_with (refine wpList_load_row rfl 24 _ rfl w.heap.size rfl 24 _ (0, 0) _ hS.row Try.underlying24 rfl (info24 s) ?_)
  refine (hw _).mono ?_
  rintro e w1 ⟨rfl, B1⟩
  have hS1 := hS.below B1 hS.lt
  have hR1 := hR.below B1 hR.lt
  have hB1 := hB.trans (B1.mono hB.size)
  go_wp2_with fail
  refine column_region _ (fun _ _ _ _ _ h => h) _ _ w.heap.size w.heap.size (w.heap.size + 1) s page i h hi _ hS1 hR1 (by omega) (by omega) hB1.size ?_
  intro w' B2 hG _
  unfold fr28
  go_wp2_with fail
  refine bodyPost_ret (results_cell_row rfl _ _ (w.heap.size + 1) 31 _ (0, 0) _ rfl hG Try.underlying31 rfl (info31 _)) rfl ?_
  exact ⟨rfl, hB1.trans B2⟩
end Go.Proofs.Ytglgapmjhmeonaa
