/-
  What is proved here: ahead tells how bytes look that are put in; slices.Grow and slices.Concat put lists of spans together.
-/
import Derived.Test.YtjakmekifpbldaaWalkE
import Derived.Lib.AppendZeros
namespace Go.Proofs.Ytjakmekifpbldaa
open Go.RowKit Go.Shelf

/-- How bytes look that are put in at a place. -/
def aheadC (L : List Ch) (m : Ch) (p : Nat) : Ch := (L[p - 1]?).getD m

theorem ahead_run (L : List Ch) (m : Ch) {p : Nat} (hp : p ≤ L.length) (h0 : L ≠ []) : ∃ h : idx L (p - 1) < (rle L).length, (rle L)[idx L (p - 1)].2 = aheadC L m p := by
  have hl : 0 < L.length := List.length_pos_iff.2 h0
  obtain ⟨h1, h2, h3⟩ := idx_spec L (x := p - 1) (by omega)
  exact ⟨h1, by rw [aheadC, rle_byte L h1 h2 h3]; rfl⟩

theorem rle_nil (L : List Ch) (h : (rle L).length = 0) : L = [] := by
  have := rle_length L
  rw [List.eq_nil_of_length_eq_zero h] at this
  exact List.eq_nil_of_length_eq_zero this.symm

theorem below_set {n : Nat} {w w' : World} (h : Below n w w') (B o : Nat) (v : Value) (hB : n ≤ B) : Below n w (w'.setCell ⟨B, o, none⟩ v) :=
  ⟨h.1, h.2, h.3, by have := h.size; simp; omega, fun k hk => (Below.heap_setCell _ _ _ k (by show k ≠ B; omega)).trans (h.block k hk)⟩
theorem set3 {w : World} {B : Nat} {a b c x y z : Value} {t : TypeId} (h : w.heap[B]? = some (.cells #[a, b, c] t (0, 0))) : (((w.setCell ⟨B, 0, none⟩ x).setCell ⟨B, 1, none⟩ y).setCell ⟨B, 2, none⟩ z).heap[B]? = some (.cells #[x, y, z] t (0, 0)) := by
  have h1 := heap_setCell_same w B 0 _ t x h
  have h2 := heap_setCell_same _ B 1 _ t y h1
  exact heap_setCell_same _ B 2 _ t z h2

theorem ahead_facts {w wx : World} {t g cap n ix : Nat} {c : Ch} (hbx : Below (w.alloc (.cells #[.int .i64 0, .int .i64 0, .int .i64 0] 23)).heap.size (w.alloc (.cells #[.int .i64 0, .int .i64 0, .int .i64 0] 23)) wx)
    (hlt : t < w.heap.size) (hg : g < w.heap.size) (c1 : w.cell? ⟨t, 1, none⟩ = some (.slice (some ⟨g, 0, none⟩) n cap)) (d1 : w.cell? ⟨g, ix * 4 + 1, none⟩ = some (.int .i64 c.s)) (d2 : w.cell? ⟨g, ix * 4 + 2, none⟩ = some (.int .i64 c.t)) (d3 : w.cell? ⟨g, ix * 4 + 3, none⟩ = some (.int .i64 c.k)) :
    Below w.heap.size w wx ∧ (wx.cell? ⟨t, 1, none⟩ = some (.slice (some ⟨g, 0, none⟩) n cap) ∧ wx.cell? ⟨g, ix * 4 + 1, none⟩ = some (.int .i64 c.s) ∧ wx.cell? ⟨g, ix * 4 + 2, none⟩ = some (.int .i64 c.t) ∧ wx.cell? ⟨g, ix * 4 + 3, none⟩ = some (.int .i64 c.k)) ∧
      wx.heap[w.heap.size]? = some (.cells #[.int .i64 0, .int .i64 0, .int .i64 0] 23 (0, 0)) ∧
      (wx.cell? ⟨w.heap.size, 0, none⟩ = some (.int .i64 0) ∧ wx.cell? ⟨w.heap.size, 1, none⟩ = some (.int .i64 0) ∧ wx.cell? ⟨w.heap.size, 2, none⟩ = some (.int .i64 0)) ∧
      wx.frozen? ⟨w.heap.size, 0, none⟩ = false ∧ wx.frozen? ⟨w.heap.size, 1, none⟩ = false ∧ wx.frozen? ⟨w.heap.size, 2, none⟩ = false := by
  have hb0 := (Below.refl w.heap.size w).alloc (Nat.le_refl _) (.cells #[.int .i64 0, .int .i64 0, .int .i64 0] 23)
  have hbw : Below w.heap.size w wx := hb0.trans (hbx.mono (by simp))
  have hBx : wx.heap[w.heap.size]? = some (.cells #[.int .i64 0, .int .i64 0, .int .i64 0] 23 (0, 0)) := (hbx.block w.heap.size (by simp)).trans (heap_new w _)
  refine ⟨hbw, ⟨(hbw.cell hlt).trans c1, (hbw.cell hg).trans d1, (hbw.cell hg).trans d2, (hbw.cell hg).trans d3⟩, hBx, ⟨?_, ?_, ?_⟩, Lib.frozen_of_heap hBx 0, Lib.frozen_of_heap hBx 1, Lib.frozen_of_heap hBx 2⟩ <;> (rw [Lib.cell_of_heap hBx]; rfl)

set_option maxRecDepth 100000 in
set_option maxHeartbeats 2000000 in
theorem ahead_any (t : Nat) (sv : Value) (L : List Ch) (m : Ch) (p : Nat) (hp : p ≤ L.length) (w : World) (h : LooksAt t sv L m w) :
    Calls Try.prog 44 #[.pointer (some ⟨t, 0, none⟩), .int .i64 p] w fun e w' => e = .returned (chV (aheadC L m p)) ∧ Below w.heap.size w w' := by
  obtain ⟨_, c1, c2, c3, c4⟩ := h.cells
  have hfew := h.few
  have hlen : (rle L).length ≤ 4096 := Nat.le_trans (rle_len_le L) h.few
  have hlt := h.lt
  unfold chV
  by_cases h0 : L = []
  · have hsv : ∃ a cap, sv = .slice a 0 cap := by
      obtain ⟨a, cap, hs⟩ := slice_form h.row
      rw [h0] at hs
      exact ⟨a, cap, hs⟩
    obtain ⟨a, cap, rfl⟩ := hsv
    have hm : aheadC L m p = m := by rw [h0]; rfl
    rw [hm]
    clear h
    go_enter Try.func44, Try.ntmps44
    go_wp2_with fail
    refine bodyPost_ret (results_cell_row rfl _ _ w.heap.size 23 _ (0, 0) _ rfl (heap_new w _) Try.underlying23 rfl (by kernel_rfl)) rfl ?_
    exact ⟨rfl, (Below.refl _ w).alloc (Nat.le_refl _) _⟩
  · obtain ⟨hix, hav⟩ := ahead_run L m hp h0
    have hl : 0 < L.length := List.length_pos_iff.2 h0
    rcases run_cells h.row with ⟨hr0, _⟩ | ⟨g, cap, rfl, _, hg, hc⟩
    · exact (h0 (rle_nil L (by rw [hr0]; rfl))).elim
    · obtain ⟨_, d1, d2, d3⟩ := hc _ hix
      rw [hav] at d1 d2 d3
      have hne : (rle L).length ≠ 0 := fun hz => h0 (rle_nil L hz)
      have hrun : ∀ W', Below w.heap.size w W' → Calls Try.prog 42 #[.pointer (some ⟨t, 0, none⟩), .int .i64 (max (IntKind.i64.wrap ((p : Int) - 1)) 0)] W' fun e w' => e = .returned (.int .i64 (idx L (p - 1))) ∧ Below W'.heap.size W' w' := fun W' hb => by
        have : max (IntKind.i64.wrap ((p : Int) - 1)) 0 = ((p - 1 : Nat) : Int) := by rw [IntKind.wrap_i64]; omega
        rw [this]
        exact runAt_any t _ L m (p - 1) W' (h.below hb)
      generalize aheadC L m p = c at *
      generalize idx L (p - 1) = ix at *
      clear h hav hc
      have hrun' : Hid _ := hrun
      clear hrun
      have hb0 := (Below.refl w.heap.size w).alloc (Nat.le_refl _) (.cells #[.int .i64 0, .int .i64 0, .int .i64 0] 23)
      go_enter Try.func44, Try.ntmps44
      go_wp2_with fail
      go_region_with (go_at_call 42; refine (hrun'.out _ (by exact ⟨hb0.1, hb0.2, hb0.3, hb0.4, hb0.5⟩)).mono ?_; rintro e wx ⟨rfl, hbx⟩; obtain ⟨hbw, ⟨x1, y1, y2, y3⟩, hBx, ⟨z0, z1, z2⟩, f0, f1, f2⟩ := ahead_facts (w := w) (wx := wx) (by exact ⟨hbx.1, hbx.2, hbx.3, hbx.4, hbx.5⟩) hlt hg c1 d1 d2 d3)
      all_goals
        go_wp2_with fail
        refine bodyPost_ret (results_cell_row rfl _ _ w.heap.size 23 _ (0, 0) _ rfl (set3 hBx) Try.underlying23 rfl (by kernel_rfl)) rfl ?_
        exact ⟨rfl, below_set (below_set (below_set hbw _ _ _ (Nat.le_refl _)) _ _ _ (Nat.le_refl _)) _ _ _ (Nat.le_refl _)⟩

set_option maxHeartbeats 1000000 in
/-- slices.Grow of no list. -/
theorem grow_nil (n : Nat) (hn : n ≤ 1000000) (w : World) :
    Calls Try.prog 51 #[.slice none 0 0, .int .i64 n] w fun e w' => ∃ v, e = .returned v ∧ w'.ownsRow w.heap.size 61 4 v 0 [] ∧ Below w.heap.size w w' := by
  obtain ⟨i0, hi, hz0, hz1, hz2⟩ := info_parts info61
  by_cases h0 : n = 0
  · subst h0
    go_enter Try.func51, Try.ntmps51
    go_wp2
    go_ret
    exact ⟨_, rfl, World.ownsRow_nil _ _ _ _, Below.refl _ _⟩
  · have happ := Lib.run_append_nil_zeros (P := Try.prog) w 40 3 40 61 i0 _ .i64 .i64 Try.underlying40 Try.underlying3 hi hz0 n (by omega) (by omega) (by omega) (by rw [hz2]; omega)
    have hge := grownCap_ge w n 0 61
    have hle := grownCap_le_maxLen w n 0 61 (by unfold maxLen; omega)
    generalize hG : grownCap w n 0 61 = G at happ hge hle
    obtain ⟨cs, hcs⟩ : ∃ cs, Builtin.zeroCells (Value.agg #[.int .i64 0, .int .i64 0, .int .i64 0, .int .i64 0]).cells n ++ Builtin.zeroCells (Value.agg #[.int .i64 0, .int .i64 0, .int .i64 0, .int .i64 0]).cells (G - n) = cs := ⟨_, rfl⟩
    rw [hcs] at happ
    have hsz : cs.size = G * 4 := by
      rw [← hcs, Array.size_append, size_zeroCells, size_zeroCells]
      show n * 4 + (G - n) * 4 = G * 4
      omega
    have hB : Below w.heap.size w (w.drew.alloc (.cells cs 61)) := (show Below w.heap.size w w.drew from ⟨rfl, rfl, rfl, Nat.le_refl _, fun _ _ => rfl⟩).alloc (Nat.le_refl _) _
    clear hcs hG
    go_enter Try.func51, Try.ntmps51
    go_wp2_with (at_builtin; refine Lib.wpList_append_run _ rfl _ _ _ _ rfl _ _ rfl rfl _ _ happ ?_)
    go_ret
    exact ⟨_, rfl, ⟨rfl, .inr ⟨w.heap.size, G, cs, rfl, Nat.le_refl _, heap_new w.drew _, by omega, hle, hsz, by simp⟩⟩, hB⟩
end Go.Proofs.Ytjakmekifpbldaa
