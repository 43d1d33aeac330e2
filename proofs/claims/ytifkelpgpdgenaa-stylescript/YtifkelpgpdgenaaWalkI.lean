/-
  What is proved here: what the document's own With and May answer.
-/
import Derived.Test.YtifkelpgpdgenaaWalkH
namespace Go.Proofs.Ytifkelpgpdgenaa
open Go.RowKit Go.Shelf

/-- A row of seventeen numbers, made and filled. -/
theorem made38 (w : World) {l : List Int} (hl : l.length = 17) : PB ((w.alloc (.cells #[Value.int IntKind.i64 0, Value.int IntKind.i64 0, Value.int IntKind.i64 0, Value.int IntKind.i64 0, Value.int IntKind.i64 0, Value.int IntKind.i64 0, Value.int IntKind.i64 0, Value.int IntKind.i64 0, Value.int IntKind.i64 0, Value.int IntKind.i64 0, Value.int IntKind.i64 0, Value.int IntKind.i64 0, Value.int IntKind.i64 0, Value.int IntKind.i64 0, Value.int IntKind.i64 0, Value.int IntKind.i64 0, Value.int IntKind.i64 0] 38)).setRow w.heap.size (prC l)) w.heap.size 38 l ∧ Below w.heap.size w ((w.alloc (.cells #[Value.int IntKind.i64 0, Value.int IntKind.i64 0, Value.int IntKind.i64 0, Value.int IntKind.i64 0, Value.int IntKind.i64 0, Value.int IntKind.i64 0, Value.int IntKind.i64 0, Value.int IntKind.i64 0, Value.int IntKind.i64 0, Value.int IntKind.i64 0, Value.int IntKind.i64 0, Value.int IntKind.i64 0, Value.int IntKind.i64 0, Value.int IntKind.i64 0, Value.int IntKind.i64 0, Value.int IntKind.i64 0, Value.int IntKind.i64 0] 38)).setRow w.heap.size (prC l)) :=
  ⟨⟨hl, setRow_same _ (heap_new w _) _⟩, below_setRow ((Below.refl _ w).alloc (Nat.le_refl _) _) (Nat.le_refl _) _⟩

set_option maxRecDepth 100000 in
set_option maxHeartbeats 4000000 in
theorem refWith_any (l : List Int) (hl : l.length = 17) (n v : Int) (hn : 1 ≤ n ∧ n ≤ 17) (w : World) : Calls Try.prog 19 #[prV l, seV n v] w fun e w' => e = .returned (prV (setP l (n, v))) ∧ Below w.heap.size w w' := by
  have h3 := three w hl n v
  have hal := refAll_any l hl
  have hl' : (setP l (n, v)).length = 17 := by simp [setP]; exact hl
  have hof := refOf_any (setP l (n, v)) hl'
  have hof' : Hid _ := hof
  clear hof
  unfold prV seV at *
  generalize hw3 : (((w.alloc (.cells (prC l) 23)).alloc (.cells #[.int .i64 n, .int .i64 v] 37)).alloc (.cells (prC zeroL) 23)) = w3 at h3
  have hO := h3.old
  go_enter Try.func19, Try.ntmps19
  go_wp2_with (refine wpList_load_row rfl 23 _ rfl w.heap.size rfl 23 _ (0, 0) _ (by first | exact hO.row | (rw [zeros]; rw [hw3]; exact hO.row)) Try.underlying23 rfl (info23l hl) ?_)
  try rw [zeros]
  try rw [hw3]
  clear hw3
  refine (hal _).mono ?_
  rintro e w4 ⟨rfl, hb⟩
  have hB := h3.below.trans (hb.mono h3.below.size)
  have hR := h3.room.below hb h3.room.lt
  have hse := (hb.block _ (by have := h3.size; omega)).trans h3.se
  obtain ⟨hM, hMb⟩ := made38 w4 hl
  obtain ⟨w5, hw5⟩ : ∃ w5, (w4.alloc (.cells #[Value.int IntKind.i64 0, Value.int IntKind.i64 0, Value.int IntKind.i64 0, Value.int IntKind.i64 0, Value.int IntKind.i64 0, Value.int IntKind.i64 0, Value.int IntKind.i64 0, Value.int IntKind.i64 0, Value.int IntKind.i64 0, Value.int IntKind.i64 0, Value.int IntKind.i64 0, Value.int IntKind.i64 0, Value.int IntKind.i64 0, Value.int IntKind.i64 0, Value.int IntKind.i64 0, Value.int IntKind.i64 0, Value.int IntKind.i64 0] 38)).setRow w4.heap.size (prC l) = w5 := ⟨_, rfl⟩
  rw [hw5] at hM hMb
  have hse5 := (hMb.block _ (Array.getElem?_eq_some_iff.1 hse).1).trans hse
  obtain ⟨c0, c1⟩ := se_cells hse5
  have hc := hM.cell (k := n.toNat - 1) (by omega)
  have hfr := hM.free (n.toNat - 1)
  have hM2 := hM.store (n.toNat - 1) v
  have hB5 := hB.trans (hMb.mono hB.size)
  have hB6 := below_setCell (k := n.toNat - 1) hB5 hB.size (.int .i64 v)
  have hR5 := hR.below hMb hR.lt
  have hR6 : PB (w5.setCell ⟨w4.heap.size, n.toNat - 1, none⟩ (.int .i64 v)) (w.heap.size + 2) 23 zeroL := ⟨rfl, (Below.heap_setCell _ _ _ _ (by have := hR.lt; intro e; have : w.heap.size + 2 = w4.heap.size := e; omega)).trans hR5.row⟩
  have hnn : ((n.toNat - 1 : Nat) : Int) = n - 1 := by omega
  obtain ⟨k, hk⟩ : ∃ k, k = n.toNat - 1 := ⟨_, rfl⟩
  have hk17 : k < 17 := by omega
  have hnk : n = (k : Int) + 1 := by omega
  rw [← hk] at hc hfr hM2 hB6 hR6
  clear hk hnn
  subst hnk
  have hS : setP l ((k : Int) + 1, v) = l.set k v := by simp [setP]
  rw [hS] at hof' hl'
  replace hS : Hid _ := hS
  go_wp2_with (first
    | (refine wpList_store_row rfl 38 _ _ rfl w4.heap.size (prC l) rfl rfl 38 _ (heap_new w4 _) (info38l hl) (by rw [prC_size, hl]; rfl) (prC_one _) ?_; rw [hw5])
    | refine wpList_load_row rfl 38 _ rfl w4.heap.size rfl 38 _ (0, 0) _ hM2.row Try.underlying38 rfl (info38l hl') ?_)
  refine (hof'.out _).mono ?_
  rintro e w6 ⟨rfl, hb6⟩
  have hB7 := hB6.trans (hb6.mono hB6.size)
  have hR7 := hR6.below hb6 hR6.lt
  have hE : Hid _ := And.intro (hR7.setRow hl') (below_setRow hB7 (Nat.le_add_right w.heap.size 2) (prC (l.set k v)))
  go_wp2_with (refine wpList_store_row rfl 23 _ _ rfl (w.heap.size + 2) (prC (l.set k v)) rfl rfl 23 _ hR7.row (info23l hl') (by rw [prC_size, prC_size, hl']; rfl) (prC_one _) ?_)
  refine bodyPost_ret (results_cell_row rfl _ _ (w.heap.size + 2) 23 _ (0, 0) _ rfl hE.out.1.row Try.underlying23 rfl (info23l hl')) rfl ?_
  exact ⟨by rw [hS.out], hE.out.2⟩

theorem mayS_in {k : Nat} (hk : k < 17) (v : Int) : mayS ((k : Int) + 1) v = (decide (loP ((k : Int) + 1) ≤ v) && decide (v ≤ hiP ((k : Int) + 1))) := mayS_yes (isP_yes (by omega))

set_option maxRecDepth 100000 in
set_option maxHeartbeats 4000000 in
theorem refMayP_any (l : List Int) (hl : l.length = 17) (w : World) : Calls Try.prog 12 #[prV l] w fun e w' => e = .returned (.bool (mayP l)) ∧ Below w.heap.size w w' := by
  have hP := PB.new w (T := 23) hl
  have hB := (Below.refl w.heap.size w).alloc (Nat.le_refl _) (Obj.cells (prC l) 23)
  have hal := refAll_any l hl
  generalize hw0 : w.alloc (Obj.cells (prC l) 23) = w0 at hP hB
  unfold prV at *
  go_enter Try.func12, Try.ntmps12
  go_wp2_with (refine wpList_load_row rfl 23 _ rfl w.heap.size rfl 23 _ (0, 0) _ (by first | exact hP.row | (rw [hw0]; exact hP.row)) Try.underlying23 rfl (info23l hl) ?_)
  try rw [hw0]
  clear hw0
  refine (hal _).mono ?_
  rintro e w4 ⟨rfl, hb⟩
  obtain ⟨hM, hMb⟩ := made38 w4 hl
  have hB4 := hB.trans (hb.mono hB.size)
  have hB5 := hB4.trans (hMb.mono hB4.size)
  go_wp2_with (refine wpList_store_row rfl 38 _ _ rfl w4.heap.size (prC l) rfl rfl 38 _ (heap_new w4 _) (info38l hl) (by rw [prC_size, hl]; rfl) (prC_one _) ?_)
  generalize (w4.alloc _).setRow w4.heap.size (prC l) = w5 at hM hMb hB5 ⊢
  go_loopw [4] (fun i wr => ∃ k : Nat, k ≤ 17 ∧ i = .int .i64 k ∧ Below w5.heap.size w5 wr ∧ Hid (∀ j : Nat, j < k → mayS ((j : Int) + 1) (l.getD j 0) = true)) (fun i _ => 17 - (intOf i).toNat)
  case atStart => exact ⟨0, by omega, rfl, Below.refl _ _, fun j hj => by omega⟩
  case round =>
    obtain ⟨k, hk, rfl, hbr, hall⟩ := hrel
    by_cases hlt : k < 17
    · have hP2 := hM.below hbr hM.lt
      have hc := hP2.cell hlt
      have hbo := refBounds_any ((k : Int) + 1)
      have hmi := mayS_in hlt (l.getD k 0)
      have hno : Hid _ := mayP_no (l := l) hlt
      obtain ⟨v, hvE⟩ : ∃ v, l.getD k 0 = v := ⟨_, rfl⟩
      rw [hvE] at hc hno hmi
      replace hvE : Hid _ := hvE
      generalize loP ((k : Int) + 1) = lo at *
      generalize hiP ((k : Int) + 1) = hi at *
      replace hmi : Hid _ := hmi
      by_cases h1 : v < lo
      · have hno' := hno.out (by rw [hmi.out]; simp; omega)
        clear hno hall hmi
        go_wp2_with (go_at_call 10; refine (hbo _).mono ?_; rintro e w' ⟨rfl, hww⟩; subst w')
        go_ret
        exact ⟨by first | rfl | (rw [hno']; rfl), hB5.trans (hbr.mono hB5.size)⟩
      · by_cases h2 : hi < v
        · have hno' := hno.out (by rw [hmi.out]; simp; omega)
          clear hno hall hmi
          go_wp2_with (go_at_call 10; refine (hbo _).mono ?_; rintro e w' ⟨rfl, hww⟩; subst w')
          go_ret
          exact ⟨by first | rfl | (rw [hno']; rfl), hB5.trans (hbr.mono hB5.size)⟩
        · have hyes : Hid (∀ j : Nat, j < k + 1 → mayS ((j : Int) + 1) (l.getD j 0) = true) := fun j hj => by
            by_cases h : j < k
            · exact hall.out j h
            · obtain rfl : j = k := by omega
              rw [hvE.out, hmi.out]; simp; omega
          clear hno hall hmi
          go_wp2_with (go_at_call 10; refine (hbo _).mono ?_; rintro e w' ⟨rfl, hww⟩; subst w')
          go_roundw
          case rel => exact ⟨k + 1, by omega, by simp, hbr, hyes⟩
          case measure => simp [intOf]; omega
    · have hk17 : k = 17 := by omega
      rw [hk17] at hall
      have hy := mayP_yes hall.out
      clear hall
      go_wp2_with fail
      go_ret
      exact ⟨by first | rfl | (rw [hy]; rfl), hB5.trans (hbr.mono hB5.size)⟩
end Go.Proofs.Ytifkelpgpdgenaa
