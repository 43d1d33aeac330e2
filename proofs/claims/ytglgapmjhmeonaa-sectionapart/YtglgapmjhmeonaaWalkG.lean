/-
  What is proved here: what across, Head, Foot, Begin and Variant of section answer.
-/
import Derived.Test.YtglgapmjhmeonaaRegB
namespace Go.Proofs.Ytglgapmjhmeonaa
open Go.RowKit Go.Shelf

theorem across_eq (s : Sec) (page : Int) : (colR s page (s.cols - 1)).x + (colR s page (s.cols - 1)).w - (colR s page 0).x = spanI s := by
  show leftI s page + (s.cols - 1) * (wideI s + s.gap) + wideI s - (leftI s page + 0 * (wideI s + s.gap)) = s.cols * wideI s + (s.cols - 1) * s.gap
  rw [Int.mul_add, Int.sub_mul, Int.zero_mul]
  omega
theorem col_x0 (s : Sec) (page : Int) : (colR s page 0).x = leftI s page := by
  show leftI s page + 0 * (wideI s + s.gap) = leftI s page
  rw [Int.zero_mul]; omega
theorem rc_cells {W : World} {A : Nat} {r : Rc} (h : W.heap[A]? = some (.cells (rcC r) 31 (0, 0))) : W.cell? ⟨A, 0, none⟩ = some (.int .i64 r.x) ∧ W.cell? ⟨A, 1, none⟩ = some (.int .i64 r.y) ∧ W.cell? ⟨A, 2, none⟩ = some (.int .i64 r.w) ∧ W.cell? ⟨A, 3, none⟩ = some (.int .i64 r.h) := by
  refine ⟨?_, ?_, ?_, ?_⟩ <;> (rw [Lib.cell_of_heap h]; rfl)
theorem span_bounds {s : Sec} (hn : NumOk s) : -800000 ≤ spanI s ∧ spanI s ≤ 800000 := by
  have b1 := wide_bounds hn; have b2 := hn.gap; have b0 := hn.cols
  have b3 : -400000 ≤ s.cols * wideI s ∧ s.cols * wideI s ≤ 400000 := mul_bounds (by omega) (by omega)
  have b4 : -400000 ≤ (s.cols - 1) * s.gap ∧ (s.cols - 1) * s.gap ≤ 400000 := mul_bounds (by omega) (by omega)
  unfold spanI; omega

set_option maxRecDepth 100000 in
set_option maxHeartbeats 1000000 in
theorem across_any (s : Sec) (h : NumOk s) (page y hh : Int) (w : World) : Calls Try.prog 29 #[seV s, .int .i64 page, .int .i64 y, .int .i64 hh] w fun e w' => e = .returned (rcV ⟨leftI s page, y, spanI s, hh⟩) ∧ Below w.heap.size w w' := by
  obtain ⟨hS, hR, hB⟩ := two_new w s
  have hc0 : Hid (∀ w, Calls Try.prog 28 #[.agg (seC s), .int .i64 page, .int .i64 0] w fun e w' => e = .returned (.agg (rcC (colR s page 0))) ∧ Below w.heap.size w w') := column_any s h page 0 (by omega)
  have hcb := h.cols
  have hc1 : Hid (∀ w, Calls Try.prog 28 #[.agg (seC s), .int .i64 page, .int .i64 (s.cols - 1)] w fun e w' => e = .returned (.agg (rcC (colR s page (s.cols - 1)))) ∧ Below w.heap.size w w') := column_any s h page (s.cols - 1) (by omega)
  have he := across_eq s page
  have hx := col_x0 s page
  have hsp := span_bounds h
  have hlf := left_bounds h page
  have hwd := wide_bounds h
  unfold seV
  go_enter Try.func29, Try.ntmps29
  go_wp2_with fail
  refine across_region _ (fun _ _ _ _ _ h => h) _ _ w.heap.size s page hcb hc0.out hc1.out _ hS ?_
  intro A9 A10 w1 B1 h9 h10 g9 g10
  obtain ⟨c9, _, _, _⟩ := rc_cells h9
  obtain ⟨c10, _, c12, _⟩ := rc_cells h10
  have hR1 := hR.below B1 hR.lt
  have D1 := hB.trans (B1.mono hB.size)
  obtain ⟨q1, q2, q3, q4, hRR⟩ := hR1
  have hwq : (colR s page (s.cols - 1)).w = wideI s := rfl
  rw [hwq] at c12 he
  rw [hx] at c9 he
  generalize hX : (colR s page (s.cols - 1)).x = X at *
  have he' : Hid (X + wideI s - leftI s page = spanI s) := he
  have hxb : -5000000 ≤ X ∧ X ≤ 5000000 := by omega
  have D2 := below_setRow D1 (Nat.le_succ w.heap.size) (rcC ⟨leftI s page, y, X + wideI s - leftI s page, hh⟩)
  have G9' : Hid ((w1.setRow (w.heap.size + 1) (rcC ⟨leftI s page, y, X + wideI s - leftI s page, hh⟩)).heap[w.heap.size + 1]? = some (.cells (rcC ⟨leftI s page, y, X + wideI s - leftI s page, hh⟩) 31 (0, 0))) := setRow_same w1 hRR _
  clear hc0 hc1 h9 h10 he hx hX h hwq hsp
  unfold fr29
  go_wp2_with (refine wpList_store_row rfl 31 _ _ rfl (w.heap.size + 1) (rcC ⟨leftI s page, y, X + wideI s - leftI s page, hh⟩) rfl rfl 31 _ hRR (by kernel_rfl) (by rfl) (rcC_one _) ?_)
  refine bodyPost_ret (results_cell_row rfl _ _ (w.heap.size + 1) 31 _ (0, 0) _ rfl G9'.out Try.underlying31 rfl (info31 _)) rfl ?_
  exact ⟨by rw [← he'.out]; rfl, D2⟩

theorem results_cell_row2 {P : Program} {fn : Func} {p u : Tmp} {ty : TypeId} (h : fn.results = #[.cell p ty, .tmp u]) (tmps : Array Value) (w : World) (g : Nat) (t : TypeId) (cs : Array Value) (fr : Nat × Nat) (d : TypeDesc)
    (hp : tmps.getD p undef = .pointer (some ⟨g, 0, none⟩)) (hg : w.heap[g]? = some (.cells cs t fr))
    (hu : P.underlying ty = some d) (hd : (match d with | .struct _ | .array _ _ => true | _ => false) = true) (hi : (P.info? ty).map (·.size) = some cs.size) :
    (results fn tmps).run P w = .ok (.tuple #[.agg cs, tmps.getD u undef]) w := by
  have hp' : tmps[p]?.getD undef = .pointer (some ⟨g, 0, none⟩) := by simpa using hp
  rw [results_cell_tmp h]
  simp [hp', asAddr, run_loadVar_row w g t ty cs fr d hg hu hd hi, Result.andThen]

def zeroR : Rc := ⟨0, 0, 0, 0⟩
def headA (s : Sec) (page : Int) : Rc := if pageI s page 1 = 0 then headR s page else zeroR
def footA (s : Sec) (page : Int) : Rc := if pageI s page 1 = 0 then footR s page else zeroR

set_option maxRecDepth 100000 in
set_option maxHeartbeats 1000000 in
theorem head_any (s : Sec) (hsm : smB s = true) (page : Int) (w : World) : Calls Try.prog 10 #[seV s, .int .i64 page] w fun e w' => e = .returned (.tuple #[rcV (headA s page), .int .i64 (pageI s page 1)]) ∧ Below w.heap.size w w' := by
  obtain ⟨hS, hR, hB⟩ := two_new w s
  have hrf : Hid (∀ w, Calls Try.prog 27 #[seV s, .int .i64 page, .int .i64 1] w fun e w' => e = .returned (.int .i64 (pageI s page 1)) ∧ Below w.heap.size w w') := refuse_any s hsm page 1
  clear hsm
  unfold seV
  go_enter Try.func10, Try.ntmps10
  go_wp2_with (refine wpList_load_row rfl 24 _ rfl w.heap.size rfl 24 _ (0, 0) _ hS.row Try.underlying24 rfl (info24 s) ?_)
  refine (hrf.out _).mono ?_
  rintro e w1 ⟨rfl, B1⟩
  have hS1 := hS.below B1 hS.lt
  have hR1 := hR.below B1 hR.lt
  have D1 := hB.trans (B1.mono hB.size)
  by_cases h0 : pageI s page 1 = 0
  · obtain ⟨hm, hp1, hp2⟩ := may_page h0
    have hac : Hid (∀ w, Calls Try.prog 29 #[seV s, .int .i64 page, .int .i64 (s.top.tdiv 2), .int .i64 (s.top - s.top.tdiv 2)] w fun e w' => e = .returned (rcV ⟨leftI s page, s.top.tdiv 2, spanI s, s.top - s.top.tdiv 2⟩) ∧ Below w.heap.size w w') := across_any s hm.toNumOk page _ _
    have ha : Hid (headA s page = ⟨leftI s page, s.top.tdiv 2, spanI s, s.top - s.top.tdiv 2⟩) := by unfold headA; rw [if_pos h0]; rfl
    have ht := hm.top
    have ht2 := half_bounds ht
    have c2 := hS1.c2
    have h0' : Hid (pageI s page 1 = 0) := h0
    rw [h0]
    clear h0 hm
    go_wp2_with (refine wpList_load_row rfl 24 _ rfl w.heap.size rfl 24 _ (0, 0) _ hS1.row Try.underlying24 rfl (info24 s) ?_)
    refine (hac.out _).mono ?_
    rintro e w2 ⟨rfl, B2⟩
    have hR2 := hR1.below B2 hR1.lt
    have D2 := D1.trans (B2.mono D1.size)
    obtain ⟨q1, q2, q3, q4, hRR⟩ := hR2
    have G9 : Hid ((w2.setRow (w.heap.size + 1) (rcC ⟨leftI s page, s.top.tdiv 2, spanI s, s.top - s.top.tdiv 2⟩)).heap[w.heap.size + 1]? = some (.cells (rcC ⟨leftI s page, s.top.tdiv 2, spanI s, s.top - s.top.tdiv 2⟩) 31 (0, 0))) := setRow_same w2 hRR _
    have D3 := below_setRow D2 (Nat.le_succ w.heap.size) (rcC ⟨leftI s page, s.top.tdiv 2, spanI s, s.top - s.top.tdiv 2⟩)
    unfold rcV
    go_wp2_with (refine wpList_store_row rfl 31 _ _ rfl (w.heap.size + 1) (rcC ⟨leftI s page, s.top.tdiv 2, spanI s, s.top - s.top.tdiv 2⟩) rfl rfl 31 _ hRR (by kernel_rfl) (by rfl) (rcC_one _) ?_)
    refine bodyPost_ret (results_cell_row2 rfl _ _ (w.heap.size + 1) 31 _ (0, 0) _ rfl G9.out Try.underlying31 rfl (info31 _)) rfl ?_
    exact ⟨by rw [ha.out, h0'.out]; rfl, D3⟩
  · have ha : Hid (headA s page = zeroR) := by unfold headA; rw [if_neg h0]; rfl
    generalize hE : pageI s page 1 = E at *
    have hE' : Hid (pageI s page 1 = E) := hE
    clear hE
    obtain ⟨q1, q2, q3, q4, hRR⟩ := hR1
    have G9 : Hid ((w1.setRow (w.heap.size + 1) (rcC zeroR)).heap[w.heap.size + 1]? = some (.cells (rcC zeroR) 31 (0, 0))) := setRow_same w1 hRR _
    have D3 := below_setRow D1 (Nat.le_succ w.heap.size) (rcC zeroR)
    go_wp2_with (refine wpList_store_row rfl 31 _ _ rfl (w.heap.size + 1) (rcC zeroR) rfl rfl 31 _ hRR (by kernel_rfl) (by rfl) (rcC_one _) ?_)
    refine bodyPost_ret (results_cell_row2 rfl _ _ (w.heap.size + 1) 31 _ (0, 0) _ rfl G9.out Try.underlying31 rfl (info31 _)) rfl ?_
    exact ⟨by first | (rw [ha.out, hE'.out]; rfl) | (rw [ha.out]; rfl), D3⟩

set_option maxRecDepth 100000 in
set_option maxHeartbeats 1000000 in
theorem foot_any (s : Sec) (hsm : smB s = true) (page : Int) (w : World) : Calls Try.prog 11 #[seV s, .int .i64 page] w fun e w' => e = .returned (.tuple #[rcV (footA s page), .int .i64 (pageI s page 1)]) ∧ Below w.heap.size w w' := by
  obtain ⟨hS, hR, hB⟩ := two_new w s
  have hrf : Hid (∀ w, Calls Try.prog 27 #[seV s, .int .i64 page, .int .i64 1] w fun e w' => e = .returned (.int .i64 (pageI s page 1)) ∧ Below w.heap.size w w') := refuse_any s hsm page 1
  clear hsm
  unfold seV
  go_enter Try.func11, Try.ntmps11
  go_wp2_with (refine wpList_load_row rfl 24 _ rfl w.heap.size rfl 24 _ (0, 0) _ hS.row Try.underlying24 rfl (info24 s) ?_)
  refine (hrf.out _).mono ?_
  rintro e w1 ⟨rfl, B1⟩
  have hS1 := hS.below B1 hS.lt
  have hR1 := hR.below B1 hR.lt
  have D1 := hB.trans (B1.mono hB.size)
  by_cases h0 : pageI s page 1 = 0
  · obtain ⟨hm, hp1, hp2⟩ := may_page h0
    have hac : Hid (∀ w, Calls Try.prog 29 #[seV s, .int .i64 page, .int .i64 (s.h - s.bottom), .int .i64 (s.bottom.tdiv 2)] w fun e w' => e = .returned (rcV ⟨leftI s page, s.h - s.bottom, spanI s, s.bottom.tdiv 2⟩) ∧ Below w.heap.size w w') := across_any s hm.toNumOk page _ _
    have ha : Hid (footA s page = ⟨leftI s page, s.h - s.bottom, spanI s, s.bottom.tdiv 2⟩) := by unfold footA; rw [if_pos h0]; rfl
    have ht := hm.bottom
    have hth := hm.h
    have ht2 := half_bounds ht
    have c1 := hS1.c1
    have c3 := hS1.c3
    have h0' : Hid (pageI s page 1 = 0) := h0
    rw [h0]
    clear h0 hm
    go_wp2_with (refine wpList_load_row rfl 24 _ rfl w.heap.size rfl 24 _ (0, 0) _ hS1.row Try.underlying24 rfl (info24 s) ?_)
    refine (hac.out _).mono ?_
    rintro e w2 ⟨rfl, B2⟩
    have hR2 := hR1.below B2 hR1.lt
    have D2 := D1.trans (B2.mono D1.size)
    obtain ⟨q1, q2, q3, q4, hRR⟩ := hR2
    have G9 : Hid ((w2.setRow (w.heap.size + 1) (rcC ⟨leftI s page, s.h - s.bottom, spanI s, s.bottom.tdiv 2⟩)).heap[w.heap.size + 1]? = some (.cells (rcC ⟨leftI s page, s.h - s.bottom, spanI s, s.bottom.tdiv 2⟩) 31 (0, 0))) := setRow_same w2 hRR _
    have D3 := below_setRow D2 (Nat.le_succ w.heap.size) (rcC ⟨leftI s page, s.h - s.bottom, spanI s, s.bottom.tdiv 2⟩)
    unfold rcV
    go_wp2_with (refine wpList_store_row rfl 31 _ _ rfl (w.heap.size + 1) (rcC ⟨leftI s page, s.h - s.bottom, spanI s, s.bottom.tdiv 2⟩) rfl rfl 31 _ hRR (by kernel_rfl) (by rfl) (rcC_one _) ?_)
    refine bodyPost_ret (results_cell_row2 rfl _ _ (w.heap.size + 1) 31 _ (0, 0) _ rfl G9.out Try.underlying31 rfl (info31 _)) rfl ?_
    exact ⟨by rw [ha.out, h0'.out]; rfl, D3⟩
  · have ha : Hid (footA s page = zeroR) := by unfold footA; rw [if_neg h0]; rfl
    generalize hE : pageI s page 1 = E at *
    have hE' : Hid (pageI s page 1 = E) := hE
    clear hE
    obtain ⟨q1, q2, q3, q4, hRR⟩ := hR1
    have G9 : Hid ((w1.setRow (w.heap.size + 1) (rcC zeroR)).heap[w.heap.size + 1]? = some (.cells (rcC zeroR) 31 (0, 0))) := setRow_same w1 hRR _
    have D3 := below_setRow D1 (Nat.le_succ w.heap.size) (rcC zeroR)
    go_wp2_with (refine wpList_store_row rfl 31 _ _ rfl (w.heap.size + 1) (rcC zeroR) rfl rfl 31 _ hRR (by kernel_rfl) (by rfl) (rcC_one _) ?_)
    refine bodyPost_ret (results_cell_row2 rfl _ _ (w.heap.size + 1) 31 _ (0, 0) _ rfl G9.out Try.underlying31 rfl (info31 _)) rfl ?_
    exact ⟨by first | (rw [ha.out, hE'.out]; rfl) | (rw [ha.out]; rfl), D3⟩
end Go.Proofs.Ytglgapmjhmeonaa
