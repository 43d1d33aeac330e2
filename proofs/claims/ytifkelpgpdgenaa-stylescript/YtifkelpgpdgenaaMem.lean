/-
  What is proved here: properties in memory (seventeen numbers in one block): read, written, kept.
-/
import Derived.Test.YtifkelpgpdgenaaRows
import Derived.WalkKit
import Derived.WalkSpells
import Derived.Shelf.Abstract
import Derived.LaidEqlPtr
import Derived.Lib.Builder
import Derived.OwnWalk
import Derived.Laws.StructEq
namespace Go.Proofs.Ytifkelpgpdgenaa
open Go.RowKit Go.Shelf

/-- Properties: seventeen numbers. -/
def prC (l : List Int) : Array Value := (l.map (Value.int .i64)).toArray
def prV (l : List Int) : Value := .agg (prC l)
def baseL : List Int := [10, 12, 0, 0, 0, 0, 0, 0, 0, 0, 1, 1, 0, 0, 0, 0, 0]
def zeroL : List Int := [0, 0, 0, 0, 0, 0, 0, 0, 0, 0, 0, 0, 0, 0, 0, 0, 0]
theorem prC_size (l : List Int) : (prC l).size = l.length := by simp [prC]
theorem prC_one (l : List Int) : (prC l).all (·.oneCell') = true := by simp [prC, Value.oneCell']
theorem prC_get (l : List Int) (k : Nat) : (prC l)[k]? = (l[k]?).map (Value.int .i64) := by simp [prC]
theorem prC_set (l : List Int) (k : Nat) (v : Int) : (prC l).setIfInBounds k (.int .i64 v) = prC (l.set k v) := by
  apply Array.toList_inj.1; simp [prC]
theorem info23 : (Try.prog.info? 23).map (·.size) = some 17 := by kernel_rfl
theorem info38 : (Try.prog.info? 38).map (·.size) = some 17 := by kernel_rfl
theorem info23l {l : List Int} (h : l.length = 17) : (Try.prog.info? 23).map (·.size) = some (prC l).size := by rw [prC_size, h]; exact info23
theorem info38l {l : List Int} (h : l.length = 17) : (Try.prog.info? 38).map (·.size) = some (prC l).size := by rw [prC_size, h]; exact info38
theorem heap_new (w : World) (o : Obj) : (w.alloc o).heap[w.heap.size]? = some o := by show (w.heap.push o)[w.heap.size]? = _; simp
theorem heap_old (w : World) (o : Obj) {k : Nat} (h : k < w.heap.size) : (w.alloc o).heap[k]? = w.heap[k]? := by show (w.heap.push o)[k]? = _; rw [Array.getElem?_push, if_neg (Nat.ne_of_lt h)]
theorem setRow_same (w : World) {g : Nat} {old : Array Value} {t : TypeId} {fr : Nat × Nat} (h : w.heap[g]? = some (.cells old t fr)) (cells : Array Value) : (w.setRow g cells).heap[g]? = some (.cells cells t fr) := by
  simp [World.setRow, Array.getElem?_modify, h]
theorem setRow_other (w : World) {g k : Nat} (h : k ≠ g) (cells : Array Value) : (w.setRow g cells).heap[k]? = w.heap[k]? := by
  simp [World.setRow, Array.getElem?_modify, Ne.symm h]
theorem setRow_size (w : World) (g : Nat) (cells : Array Value) : (w.setRow g cells).heap.size = w.heap.size := by simp [World.setRow]
theorem below_setRow {n : Nat} {w w' : World} (h : Below n w w') {g : Nat} (hg : n ≤ g) (cells : Array Value) : Below n w (w'.setRow g cells) :=
  ⟨h.1, h.2, h.3, by rw [setRow_size]; exact h.size, fun k hk => (setRow_other _ (by omega) cells).trans (h.block k hk)⟩
theorem below_setCell {n : Nat} {w w' : World} (h : Below n w w') {g k : Nat} (hg : n ≤ g) (v : Value) : Below n w (w'.setCell ⟨g, k, none⟩ v) :=
  ⟨h.1, h.2, h.3, by simpa using h.size, fun i hi => (Below.heap_setCell _ _ _ i (by intro e; have : i = g := e; omega)).trans (h.block i hi)⟩

theorem heap_setCell_cells {w : World} {b i : Nat} {cs : Array Value} {T : TypeId} {fr : Nat × Nat} (hb : w.heap[b]? = some (.cells cs T fr)) (v : Value) :
    (w.setCell ⟨b, i, none⟩ v).heap[b]? = some (.cells (cs.setIfInBounds i v) T fr) := by
  simp [World.setCell, Array.getElem?_modify, hb]

/-- Properties in memory. -/
structure PB (w : World) (B : Nat) (T : TypeId) (l : List Int) : Prop where
  len : l.length = 17
  row : w.heap[B]? = some (.cells (prC l) T (0, 0))
theorem PB.lt {w : World} {B : Nat} {T : TypeId} {l : List Int} (h : PB w B T l) : B < w.heap.size := (Array.getElem?_eq_some_iff.1 h.row).1
theorem PB.cell {w : World} {B : Nat} {T : TypeId} {l : List Int} (h : PB w B T l) {k : Nat} (hk : k < 17) : w.cell? ⟨B, k, none⟩ = some (.int .i64 (l.getD k 0)) := by
  rw [Lib.cell_of_heap h.row, prC_get, List.getD_eq_getElem?_getD, List.getElem?_eq_getElem (by rw [h.len]; exact hk)]; rfl
theorem PB.free {w : World} {B : Nat} {T : TypeId} {l : List Int} (h : PB w B T l) (k : Nat) : w.frozen? ⟨B, k, none⟩ = false := Lib.frozen_of_heap h.row k
theorem PB.below {w w' : World} {n B : Nat} {T : TypeId} {l : List Int} (h : PB w B T l) (hb : Below n w w') (hn : B < n) : PB w' B T l := ⟨h.len, (hb.block B hn).trans h.row⟩
theorem PB.store {w : World} {B : Nat} {T : TypeId} {l : List Int} (h : PB w B T l) (k : Nat) (v : Int) : PB (w.setCell ⟨B, k, none⟩ (.int .i64 v)) B T (l.set k v) :=
  ⟨by simpa using h.len, by rw [heap_setCell_cells h.row, prC_set]⟩
theorem PB.new (w : World) {T : TypeId} {l : List Int} (h : l.length = 17) : PB (w.alloc (.cells (prC l) T)) w.heap.size T l := ⟨h, heap_new w _⟩
theorem PB.setRow {w : World} {B : Nat} {T : TypeId} {l l' : List Int} (h : PB w B T l) (hl : l'.length = 17) : PB (w.setRow B (prC l')) B T l' := ⟨hl, setRow_same _ h.row _⟩

end Go.Proofs.Ytifkelpgpdgenaa
