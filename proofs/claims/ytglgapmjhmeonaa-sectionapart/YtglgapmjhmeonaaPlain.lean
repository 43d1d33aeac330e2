/-
  What is proved here: the plain section.
-/
import Derived.Test.YtglgapmjhmeonaaWalkA
namespace Go.Proofs.Ytglgapmjhmeonaa
open Go.RowKit Go.Shelf

theorem setRow_same (w : World) {g : Nat} {old : Array Value} {t : TypeId} {fr : Nat × Nat} (h : w.heap[g]? = some (.cells old t fr)) (cells : Array Value) : (w.setRow g cells).heap[g]? = some (.cells cells t fr) := by
  simp [World.setRow, Array.getElem?_modify, h]
theorem setRow_other (w : World) {g k : Nat} (h : k ≠ g) (cells : Array Value) : (w.setRow g cells).heap[k]? = w.heap[k]? := by
  simp [World.setRow, Array.getElem?_modify, Ne.symm h]
theorem setRow_size (w : World) (g : Nat) (cells : Array Value) : (w.setRow g cells).heap.size = w.heap.size := by simp [World.setRow]
theorem below_setRow {n : Nat} {w w' : World} (h : Below n w w') {g : Nat} (hg : n ≤ g) (cells : Array Value) : Below n w (w'.setRow g cells) :=
  ⟨h.1, h.2, h.3, by rw [setRow_size]; exact h.size, fun k hk => (setRow_other _ (by omega) cells).trans (h.block k hk)⟩
theorem below_setCell {n : Nat} {w w' : World} (h : Below n w w') {g k : Nat} (hg : n ≤ g) (v : Value) : Below n w (w'.setCell ⟨g, k, none⟩ v) :=
  ⟨h.1, h.2, h.3, by simpa using h.size, fun i hi => (Below.heap_setCell _ _ _ i (by intro e; have : i = g := e; omega)).trans (h.block i hi)⟩

def zeroS : Sec := ⟨0, 0, 0, 0, 0, 0, 0, 0, 0, 0, 0, ⟨#[]⟩, ⟨#[]⟩, ⟨#[]⟩, ⟨#[]⟩, ⟨#[]⟩, ⟨#[]⟩⟩
set_option maxHeartbeats 400000 in
theorem plain_any (w : World) : Calls Try.prog 15 #[] w fun e w' => e = .returned (seV plainS) ∧ Below w.heap.size w w' := by
  have hB := (Below.refl w.heap.size w).alloc (Nat.le_refl _) (Obj.cells (seC zeroS) 24)
  have hS := SB.new w zeroS
  go_enter Try.func15, Try.ntmps15
  go_wp2_with (refine wpList_store_row rfl 24 _ _ rfl w.heap.size (seC plainS) rfl rfl 24 _ hS.row (by kernel_rfl) (by rfl) (seC_one plainS) ?_)
  refine bodyPost_ret (results_cell_row rfl _ _ w.heap.size 24 _ (0, 0) _ rfl (setRow_same _ hS.row _) Try.underlying24 rfl (info24 plainS)) rfl ?_
  exact ⟨rfl, below_setRow hB (Nat.le_refl _) _⟩
set_option maxHeartbeats 400000 in
theorem rplain_any (w : World) : Calls Try.prog 16 #[] w fun e w' => e = .returned (seV plainS) ∧ Below w.heap.size w w' := by
  have hB := (Below.refl w.heap.size w).alloc (Nat.le_refl _) (Obj.cells (seC zeroS) 24)
  have hS := SB.new w zeroS
  go_enter Try.func16, Try.ntmps16
  go_wp2_with (refine wpList_store_row rfl 24 _ _ rfl w.heap.size (seC plainS) rfl rfl 24 _ hS.row (by kernel_rfl) (by rfl) (seC_one plainS) ?_)
  refine bodyPost_ret (results_cell_row rfl _ _ w.heap.size 24 _ (0, 0) _ rfl (setRow_same _ hS.row _) Try.underlying24 rfl (info24 plainS)) rfl ?_
  exact ⟨rfl, below_setRow hB (Nat.le_refl _) _⟩
end Go.Proofs.Ytglgapmjhmeonaa
