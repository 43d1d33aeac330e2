/-
  What is proved here: which slot a line has.
-/
import Derived.Test.YthdlhikpjpfpeaaWidest
namespace Go.Proofs.Ythdlhikpjpfpeaa
open Go.RowKit Go.Shelf

theorem sl_ret (w L R m : Int) (h : m = max (w - L - R) 0) : Ending.returned (.agg (slC ⟨L, m⟩)) = .returned (slV ⟨L, max (w - L - R) 0⟩) := by rw [h]; rfl
set_option maxRecDepth 100000 in
set_option maxHeartbeats 2000000 in
theorem slot_any (v : Value) (l : List Bd) (n y p : Int) (hok : Ok l) (hn : inB n = true) (hy : 0 ≤ y ∧ y ≤ 100000) (hp : 1 ≤ p ∧ p ≤ 255) (w : World) (hS : RecAt 4 bdL w v l) :
    Calls Try.prog 21 #[.int .i64 n, v, .int .i64 y, .int .i64 p] w fun e w' => e = .returned (slV (sloS n l y p)) ∧ Below w.heap.size w w' := by
  have hB := (Below.refl w.heap.size w).alloc (Nat.le_refl _) (.cells (slC sl0) 43)
  have hx : (w.alloc (.cells (slC sl0) 43)).heap[w.heap.size]? = some (.cells (slC sl0) 43 (0, 0)) := heap_new _ _
  have hx' : Hid (∀ W, Below (w.heap.size + 1) (w.alloc (.cells (slC sl0) 43)) W → W.heap[w.heap.size]? = some (.cells (slC sl0) 43 (0, 0))) := fun W hW => (hW.block _ (Nat.lt_succ_self _)).trans hx
  have hz : (w.alloc (.cells (slC sl0) 43)).heap.size = w.heap.size + 1 := World.size_alloc _ _
  have hc0 : Hid (∀ s W, Below w.heap.size w W → Calls Try.prog 28 #[v, .int .i64 s, .int .i64 y, .int .i64 (y + p)] W fun e w' => e = .returned (.int .i64 (widF s y (y + p) l 0)) ∧ Below W.heap.size W w') := fun s W hW => widest_any v l s y (y + p) hok W (hS.below hW (Nat.le_refl _))
  obtain ⟨a, cap, rfl, -⟩ := hS.ex
  clear hS hx
  obtain ⟨L1, L2⟩ := widF_rng 0 y (y + p) l 0 hok (by omega) (by omega)
  obtain ⟨R1, R2⟩ := widF_rng 2 y (y + p) l 0 hok (by omega) (by omega)
  obtain ⟨n1, n2⟩ := inB_get hn
  obtain ⟨y1, y2⟩ := hy
  obtain ⟨p1, p2⟩ := hp
  have h0 := hc0.out 0
  have h2 := hc0.out 2
  unfold sloS
  clear hok hc0 hn
  generalize widF 0 y (y + p) l 0 = L at *
  generalize widF 2 y (y + p) l 0 = R at *
  go_enter Try.func21, Try.ntmps21
  go_wp2_with fail
  refine (h0 _ hB).mono ?_
  rintro e w1 ⟨rfl, b1⟩
  have hB1 := hB.trans (b1.mono hB.size)
  go_wp2_with fail
  refine (h2 _ hB1).mono ?_
  rintro e w2 ⟨rfl, b2⟩
  have hB2 := hB1.trans (b2.mono hB1.size)
  have hx2 := hx'.out w2 ((b1.mono (by omega)).trans (b2.mono (by have := b1.size; omega)))
  clear hx' h0 h2 b1 b2 hB hB1
  by_cases d : n - L - R < 0
  · go_wp2_with (refine wpList_store_row rfl 43 _ _ rfl w.heap.size (slC ⟨L, 0⟩) rfl rfl 43 _ hx2 (info43 _) rfl (slC_one _) ?_)
    refine bodyPost_ret (results_cell_row rfl _ _ w.heap.size 43 (slC ⟨L, 0⟩) (0, 0) _ rfl (setRow_heap _ _ _ _ 43 _ hx2) Try.underlying43 rfl (info43 _)) rfl ⟨sl_ret n L R 0 (by omega), below_row hB2 hB2.size (Nat.le_refl _) _⟩
  · go_wp2_with (refine wpList_store_row rfl 43 _ _ rfl w.heap.size (slC ⟨L, n - L - R⟩) rfl rfl 43 _ hx2 (info43 _) rfl (slC_one _) ?_)
    refine bodyPost_ret (results_cell_row rfl _ _ w.heap.size 43 (slC ⟨L, n - L - R⟩) (0, 0) _ rfl (setRow_heap _ _ _ _ 43 _ hx2) Try.underlying43 rfl (info43 _)) rfl ⟨sl_ret n L R _ (by omega), below_row hB2 hB2.size (Nat.le_refl _) _⟩

end Go.Proofs.Ythdlhikpjpfpeaa
