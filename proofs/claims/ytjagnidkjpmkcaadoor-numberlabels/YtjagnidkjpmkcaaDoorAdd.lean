/-
  What is proved here: what add does to the counts, and tells.
-/
import Derived.Test.YtjagnidkjpmkcaaDoorLabel
import Derived.BigQuiet
import Derived.Lib.SliceRun
namespace Go.Proofs.YtjagnidkjpmkcaaDoor
open Go.RowKit Go.Shelf

theorem heap_set {W : World} {b : Nat} {cur : Array Value} {T : TypeId} {fz : Nat × Nat} (h : W.heap[b]? = some (.cells cur T fz)) (k i : Nat) (u : Value) : ((W.drewN k).setCell ⟨b, i, none⟩ u).heap[b]? = some (.cells (cur.setIfInBounds i u) T fz) := by
  show (W.setCell ⟨b, i, none⟩ u).heap[b]? = _
  simp [World.setCell, Array.getElem?_modify, h]

/-- Values laid into an array, one behind the other. -/
def setArr : Array Value → Nat → List Value → Array Value
  | c, _, [] => c
  | c, o, v :: r => setArr (c.setIfInBounds o v) (o + 1) r

theorem setArr_size : ∀ (vs : List Value) (c : Array Value) (o : Nat), (setArr c o vs).size = c.size
  | [], _, _ => rfl
  | v :: r, c, o => by rw [setArr, setArr_size r]; simp

theorem setArr_at : ∀ (vs : List Value) (c : Array Value) (o j : Nat), o + vs.length ≤ c.size → (setArr c o vs)[j]? = if o ≤ j ∧ j < o + vs.length then vs[j - o]? else c[j]?
  | [], c, o, j, _ => by rw [setArr, if_neg (by simp)]
  | v :: r, c, o, j, h => by
    rw [setArr, setArr_at r _ _ _ (by simp at h ⊢; omega)]
    simp only [List.length_cons] at h ⊢
    by_cases h1 : o + 1 ≤ j ∧ j < o + 1 + r.length
    · rw [if_pos h1, if_pos (by omega), show j - o = (j - (o + 1)) + 1 by omega, List.getElem?_cons_succ]
    · rw [if_neg h1]
      by_cases h2 : j = o
      · subst h2; rw [if_pos (by omega), Nat.sub_self, Array.getElem?_setIfInBounds_self_of_lt (by omega)]; rfl
      · rw [if_neg (by omega), Array.getElem?_setIfInBounds_ne (by omega)]

theorem heap_setCells (b : Nat) (T : TypeId) (fz : Nat × Nat) : ∀ (vs : List Value) (o : Nat) (w : World) (cur : Array Value), w.heap[b]? = some (.cells cur T fz) → (w.setCells b o vs).heap[b]? = some (.cells (setArr cur o vs) T fz)
  | [], _, _, _, h => h
  | v :: r, o, w, cur, h => heap_setCells b T fz r (o + 1) _ _ (by simp [World.setCell, Array.getElem?_modify, h])

theorem heap_setCells_ne {b k : Nat} (hk : k ≠ b) : ∀ (vs : List Value) (o : Nat) (w : World), (w.setCells b o vs).heap[k]? = w.heap[k]?
  | [], _, _ => rfl
  | v :: r, o, w => (heap_setCells_ne hk r (o + 1) _).trans (Below.heap_setCell w ⟨b, o, none⟩ v k hk)

theorem setCells_os (b : Nat) : ∀ (vs : List Value) (o : Nat) (w : World), (w.setCells b o vs).os = w.os ∧ (w.setCells b o vs).tape = w.tape ∧ (w.setCells b o vs).output = w.output ∧ (w.setCells b o vs).heap.size = w.heap.size
  | [], _, _ => ⟨rfl, rfl, rfl, rfl⟩
  | v :: r, o, w => by
    obtain ⟨h1, h2, h3, h4⟩ := setCells_os b r (o + 1) (w.setCell ⟨b, o, none⟩ v)
    exact ⟨h1, h2, h3, h4.trans (by simp)⟩

theorem But.drewN {b : Nat} {v : Value} {w w' : World} (h : But b v w w') (k : Nat) : But b v w (w'.drewN k) := ⟨h.os, h.tape, h.output, h.size, h.block⟩

/-- The counts behind one paragraph more. -/
def upA (cur cur' : Array Value) (q lv n : Nat) : Prop :=
  cur'.size = 32 ∧ ∀ j, cur'[j]? = if j = q * 4 + lv then some (.int .i64 ((n : Int) + 1)) else if q * 4 + lv < j ∧ j < q * 4 + 4 then some (.int .i64 0) else cur[j]?

theorem upA_of {cur : Array Value} (hs : cur.size = 32) {q lv n k : Nat} (hq : q < 8) (hk : lv + 1 + k = 4) : upA cur (setArr (cur.setIfInBounds (q * 4 + lv) (.int .i64 ((n : Int) + 1))) (q * 4 + lv + 1) (List.replicate k (.int .i64 0))) q lv n := by
  refine ⟨by rw [setArr_size]; simpa using hs, fun j => ?_⟩
  rw [setArr_at _ _ _ _ (by simp; omega)]
  simp only [List.length_replicate]
  by_cases h1 : j = q * 4 + lv
  · rw [if_pos h1, if_neg (by omega), h1, Array.getElem?_setIfInBounds_self_of_lt (by omega)]
  · rw [if_neg h1]
    by_cases h2 : q * 4 + lv < j ∧ j < q * 4 + 4
    · rw [if_pos h2, if_pos (by omega), List.getElem?_replicate, if_pos (by omega)]
    · rw [if_neg h2, if_neg (by omega), Array.getElem?_setIfInBounds_ne (by omega)]

set_option maxHeartbeats 4000000 in
set_option maxRecDepth 100000 in
theorem add_0 (b q n : Nat) (hq : q < 8) (hn : n < 100000) (cur : Array Value) (T : TypeId) (w : World) (hb : w.heap[b]? = some (.cells cur T (0, 0))) (hs : cur.size = 32) (c1 : cur[q * 4 + 0]? = some (.int .i64 n)) :
    Calls Tryd.prog 28 #[.pointer (some ⟨b, 0, none⟩), .agg #[.int .i64 ((q : Int) + 1), .int .i64 0]] w fun e w' => e = .returned (.int .i64 ((n : Int) + 1)) ∧ (∃ cur', w'.heap[b]? = some (.cells cur' T (0, 0)) ∧ upA cur cur' q 0 n) ∧ But b (.slice none 0 0) w w' := by
  have mixed : Tryd.prog.follows Departure.mixedOrders = true := by kernel_rfl
  have hbw : b < w.heap.size := (Array.getElem?_eq_some_iff.1 hb).1
  go_enter Tryd.func28, Tryd.ntmps28
  go_wp2_with fail
  obtain ⟨W1, hW1⟩ : ∃ W1, w.alloc (.cells #[.int .i64 ((q : Int) + 1), .int .i64 0] 37) = W1 := ⟨_, rfl⟩
  have hN : W1.heap[w.heap.size]? = some (.cells #[.int .i64 ((q : Int) + 1), .int .i64 0] 37 (0, 0)) := by rw [← hW1]; exact heap_new w _
  have hB : W1.heap[b]? = some (.cells cur T (0, 0)) := by rw [← hW1]; exact (Below.heap_alloc _ _ _ hbw).trans hb
  have hbl : Below w.heap.size w W1 := by rw [← hW1]; exact (Below.refl _ w).alloc (Nat.le_refl _) _
  have e0 : W1.cell? ⟨w.heap.size, 0, none⟩ = some (.int .i64 ((q : Int) + 1)) := by rw [Lib.cell_of_heap hN]; rfl
  have e1 : W1.cell? ⟨w.heap.size, 1, none⟩ = some (.int .i64 0) := by rw [Lib.cell_of_heap hN]; rfl
  have d1 : W1.cell? ⟨b, q * 4, none⟩ = some (.int .i64 n) := by rw [Lib.cell_of_heap hB]; exact c1
  have f1 : W1.frozen? ⟨b, q * 4, none⟩ = false := Lib.frozen_of_heap hB _
  rw [hW1]
  have hX : w.heap.size ≠ b := by omega
  have hq8 : (q : Int) < 8 := by omega
  go_quiet (fail)
  go_wp2_with fail
  go_region
  go_wp2_with fail
  have hB2 := heap_set hB (nq + 1) (q * 4) (.int .i64 ((n : Int) + 1))
  have hk2 : ∀ k, k ≠ b → ((W1.drewN (nq + 1)).setCell ⟨b, q * 4, none⟩ (.int .i64 ((n : Int) + 1))).heap[k]? = W1.heap[k]? := fun k hk => Below.heap_setCell _ ⟨b, q * 4, none⟩ _ _ hk
  have ho2 : ((W1.drewN (nq + 1)).setCell ⟨b, q * 4, none⟩ (.int .i64 ((n : Int) + 1))).os = W1.os ∧ ((W1.drewN (nq + 1)).setCell ⟨b, q * 4, none⟩ (.int .i64 ((n : Int) + 1))).tape = W1.tape ∧ ((W1.drewN (nq + 1)).setCell ⟨b, q * 4, none⟩ (.int .i64 ((n : Int) + 1))).output = W1.output ∧ ((W1.drewN (nq + 1)).setCell ⟨b, q * 4, none⟩ (.int .i64 ((n : Int) + 1))).heap.size = W1.heap.size := ⟨rfl, rfl, rfl, by simp⟩
  obtain ⟨W2, hW2⟩ : ∃ W2, ((W1.drewN (nq + 1)).setCell ⟨b, q * 4, none⟩ (.int .i64 ((n : Int) + 1))) = W2 := ⟨_, rfl⟩
  rw [hW2] at hB2 hk2 ho2
  have hN2 : W2.heap[w.heap.size]? = _ := (hk2 _ hX).trans hN
  have e1' : W2.cell? ⟨w.heap.size, 1, none⟩ = some (.int .i64 0) := by rw [Lib.cell_of_heap hN2]; rfl
  rw [hW2]
  have hclr : ∀ ty, (Builtin.clear_ #[32] ty #[.slice (some ⟨b, q * 4 + 1, none⟩) 3 3]).run Tryd.prog W2.drew = .ok (.tuple #[]) (W2.drew.setCells b (q * 4 + 1) (List.replicate 3 (.int .i64 0))) := fun ty =>
    Lib.run_clear_slice W2.drew 32 3 ty (.int .i64 0) Tryd.underlying32 Tryd.zeroValue3 rfl rfl b (q * 4 + 1) 3 3 (by omega) (fun j hj => by
      show (W2.cell? _).isSome = true
      rw [Lib.cell_of_heap hB2, Array.getElem?_setIfInBounds_ne (by omega), Array.getElem?_eq_getElem (by omega)]; rfl) (fun j _ => Lib.frozen_of_heap hB2 _)
  clear hW2 hW1 e0 e1 d1 f1
  go_region
  have hB3 : (W2.drew.setCells b (q * 4 + 1) [.int .i64 0, .int .i64 0, .int .i64 0]).heap[b]? = some (.cells (setArr (cur.setIfInBounds (q * 4 + 0) (.int .i64 ((n : Int) + 1))) (q * 4 + 0 + 1) (List.replicate 3 (.int .i64 0))) T (0, 0)) := heap_setCells b T (0, 0) [.int .i64 0, .int .i64 0, .int .i64 0] (q * 4 + 1) W2.drew _ hB2
  have hk3 : ∀ k, k ≠ b → (W2.drew.setCells b (q * 4 + 1) [.int .i64 0, .int .i64 0, .int .i64 0]).heap[k]? = W1.heap[k]? := fun k hk => (heap_setCells_ne hk [.int .i64 0, .int .i64 0, .int .i64 0] (q * 4 + 1) W2.drew).trans (hk2 k hk)
  have ho3 : (W2.drew.setCells b (q * 4 + 1) [.int .i64 0, .int .i64 0, .int .i64 0]).os = W1.os ∧ (W2.drew.setCells b (q * 4 + 1) [.int .i64 0, .int .i64 0, .int .i64 0]).tape = W1.tape ∧ (W2.drew.setCells b (q * 4 + 1) [.int .i64 0, .int .i64 0, .int .i64 0]).output = W1.output ∧ (W2.drew.setCells b (q * 4 + 1) [.int .i64 0, .int .i64 0, .int .i64 0]).heap.size = W1.heap.size := by
    obtain ⟨h1, h2, h3, h4⟩ := setCells_os b [.int .i64 0, .int .i64 0, .int .i64 0] (q * 4 + 1) W2.drew
    exact ⟨h1.trans ho2.1, h2.trans ho2.2.1, h3.trans ho2.2.2.1, h4.trans ho2.2.2.2⟩
  obtain ⟨W3, hW3⟩ : ∃ W3, W2.drew.setCells b (q * 4 + 1) [.int .i64 0, .int .i64 0, .int .i64 0] = W3 := ⟨_, rfl⟩
  rw [hW3] at hB3 hk3 ho3 ⊢
  have hN3 : W3.heap[w.heap.size]? = _ := (hk3 _ hX).trans hN
  have hup := upA_of hs (lv := 0) (n := n) (k := 3) hq (by omega)
  have e1'' : W3.cell? ⟨w.heap.size, 1, none⟩ = some (.int .i64 0) := by rw [Lib.cell_of_heap hN3]; rfl
  have d1'' : W3.cell? ⟨b, q * 4, none⟩ = some (.int .i64 ((n : Int) + 1)) := by
    rw [Lib.cell_of_heap hB3]
    have := hup.2 (q * 4 + 0)
    rw [if_pos rfl] at this
    exact this
  have HU : Hid (upA cur _ q 0 n) := hup
  have HB3 : Hid (W3.heap[b]? = _) := hB3
  have hbut : Hid (But b (.slice none 0 0) w W3) := ⟨ho3.1.trans hbl.os, ho3.2.1.trans hbl.tape, ho3.2.2.1.trans hbl.output, by rw [ho3.2.2.2]; exact hbl.size, fun k hk hkb _ => (hk3 k hkb).trans (hbl.block k hk)⟩
  clear hup hB3 hk3 ho3 hN3 hB2 hk2 ho2 hN2 e1' hN hB hbl hW3 hclr
  go_wp2_with fail
  go_quiet (fail)
  go_wp2_with fail
  go_ret
  exact ⟨rfl, ⟨_, HB3.out, HU.out⟩, hbut.out.drewN _⟩

set_option maxHeartbeats 4000000 in
set_option maxRecDepth 100000 in
theorem add_1 (b q n : Nat) (hq : q < 8) (hn : n < 100000) (cur : Array Value) (T : TypeId) (w : World) (hb : w.heap[b]? = some (.cells cur T (0, 0))) (hs : cur.size = 32) (c1 : cur[q * 4 + 1]? = some (.int .i64 n)) :
    Calls Tryd.prog 28 #[.pointer (some ⟨b, 0, none⟩), .agg #[.int .i64 ((q : Int) + 1), .int .i64 1]] w fun e w' => e = .returned (.int .i64 ((n : Int) + 1)) ∧ (∃ cur', w'.heap[b]? = some (.cells cur' T (0, 0)) ∧ upA cur cur' q 1 n) ∧ But b (.slice none 0 0) w w' := by
  have mixed : Tryd.prog.follows Departure.mixedOrders = true := by kernel_rfl
  have hbw : b < w.heap.size := (Array.getElem?_eq_some_iff.1 hb).1
  go_enter Tryd.func28, Tryd.ntmps28
  go_wp2_with fail
  obtain ⟨W1, hW1⟩ : ∃ W1, w.alloc (.cells #[.int .i64 ((q : Int) + 1), .int .i64 1] 37) = W1 := ⟨_, rfl⟩
  have hN : W1.heap[w.heap.size]? = some (.cells #[.int .i64 ((q : Int) + 1), .int .i64 1] 37 (0, 0)) := by rw [← hW1]; exact heap_new w _
  have hB : W1.heap[b]? = some (.cells cur T (0, 0)) := by rw [← hW1]; exact (Below.heap_alloc _ _ _ hbw).trans hb
  have hbl : Below w.heap.size w W1 := by rw [← hW1]; exact (Below.refl _ w).alloc (Nat.le_refl _) _
  have e0 : W1.cell? ⟨w.heap.size, 0, none⟩ = some (.int .i64 ((q : Int) + 1)) := by rw [Lib.cell_of_heap hN]; rfl
  have e1 : W1.cell? ⟨w.heap.size, 1, none⟩ = some (.int .i64 1) := by rw [Lib.cell_of_heap hN]; rfl
  have d1 : W1.cell? ⟨b, q * 4 + 1, none⟩ = some (.int .i64 n) := by rw [Lib.cell_of_heap hB]; exact c1
  have f1 : W1.frozen? ⟨b, q * 4 + 1, none⟩ = false := Lib.frozen_of_heap hB _
  rw [hW1]
  have hX : w.heap.size ≠ b := by omega
  have hq8 : (q : Int) < 8 := by omega
  go_quiet (fail)
  go_wp2_with fail
  go_region
  go_wp2_with fail
  have hB2 := heap_set hB (nq + 1) (q * 4 + 1) (.int .i64 ((n : Int) + 1))
  have hk2 : ∀ k, k ≠ b → ((W1.drewN (nq + 1)).setCell ⟨b, q * 4 + 1, none⟩ (.int .i64 ((n : Int) + 1))).heap[k]? = W1.heap[k]? := fun k hk => Below.heap_setCell _ ⟨b, q * 4 + 1, none⟩ _ _ hk
  have ho2 : ((W1.drewN (nq + 1)).setCell ⟨b, q * 4 + 1, none⟩ (.int .i64 ((n : Int) + 1))).os = W1.os ∧ ((W1.drewN (nq + 1)).setCell ⟨b, q * 4 + 1, none⟩ (.int .i64 ((n : Int) + 1))).tape = W1.tape ∧ ((W1.drewN (nq + 1)).setCell ⟨b, q * 4 + 1, none⟩ (.int .i64 ((n : Int) + 1))).output = W1.output ∧ ((W1.drewN (nq + 1)).setCell ⟨b, q * 4 + 1, none⟩ (.int .i64 ((n : Int) + 1))).heap.size = W1.heap.size := ⟨rfl, rfl, rfl, by simp⟩
  obtain ⟨W2, hW2⟩ : ∃ W2, ((W1.drewN (nq + 1)).setCell ⟨b, q * 4 + 1, none⟩ (.int .i64 ((n : Int) + 1))) = W2 := ⟨_, rfl⟩
  rw [hW2] at hB2 hk2 ho2
  have hN2 : W2.heap[w.heap.size]? = _ := (hk2 _ hX).trans hN
  have e1' : W2.cell? ⟨w.heap.size, 1, none⟩ = some (.int .i64 1) := by rw [Lib.cell_of_heap hN2]; rfl
  rw [hW2]
  have hclr : ∀ ty, (Builtin.clear_ #[32] ty #[.slice (some ⟨b, q * 4 + 2, none⟩) 2 2]).run Tryd.prog W2.drew = .ok (.tuple #[]) (W2.drew.setCells b (q * 4 + 2) (List.replicate 2 (.int .i64 0))) := fun ty =>
    Lib.run_clear_slice W2.drew 32 3 ty (.int .i64 0) Tryd.underlying32 Tryd.zeroValue3 rfl rfl b (q * 4 + 2) 2 2 (by omega) (fun j hj => by
      show (W2.cell? _).isSome = true
      rw [Lib.cell_of_heap hB2, Array.getElem?_setIfInBounds_ne (by omega), Array.getElem?_eq_getElem (by omega)]; rfl) (fun j _ => Lib.frozen_of_heap hB2 _)
  clear hW2 hW1 e0 e1 d1 f1
  go_region
  have hB3 : (W2.drew.setCells b (q * 4 + 2) [.int .i64 0, .int .i64 0]).heap[b]? = some (.cells (setArr (cur.setIfInBounds (q * 4 + 1) (.int .i64 ((n : Int) + 1))) (q * 4 + 1 + 1) (List.replicate 2 (.int .i64 0))) T (0, 0)) := heap_setCells b T (0, 0) [.int .i64 0, .int .i64 0] (q * 4 + 2) W2.drew _ hB2
  have hk3 : ∀ k, k ≠ b → (W2.drew.setCells b (q * 4 + 2) [.int .i64 0, .int .i64 0]).heap[k]? = W1.heap[k]? := fun k hk => (heap_setCells_ne hk [.int .i64 0, .int .i64 0] (q * 4 + 2) W2.drew).trans (hk2 k hk)
  have ho3 : (W2.drew.setCells b (q * 4 + 2) [.int .i64 0, .int .i64 0]).os = W1.os ∧ (W2.drew.setCells b (q * 4 + 2) [.int .i64 0, .int .i64 0]).tape = W1.tape ∧ (W2.drew.setCells b (q * 4 + 2) [.int .i64 0, .int .i64 0]).output = W1.output ∧ (W2.drew.setCells b (q * 4 + 2) [.int .i64 0, .int .i64 0]).heap.size = W1.heap.size := by
    obtain ⟨h1, h2, h3, h4⟩ := setCells_os b [.int .i64 0, .int .i64 0] (q * 4 + 2) W2.drew
    exact ⟨h1.trans ho2.1, h2.trans ho2.2.1, h3.trans ho2.2.2.1, h4.trans ho2.2.2.2⟩
  obtain ⟨W3, hW3⟩ : ∃ W3, W2.drew.setCells b (q * 4 + 2) [.int .i64 0, .int .i64 0] = W3 := ⟨_, rfl⟩
  rw [hW3] at hB3 hk3 ho3 ⊢
  have hN3 : W3.heap[w.heap.size]? = _ := (hk3 _ hX).trans hN
  have hup := upA_of hs (lv := 1) (n := n) (k := 2) hq (by omega)
  have e1'' : W3.cell? ⟨w.heap.size, 1, none⟩ = some (.int .i64 1) := by rw [Lib.cell_of_heap hN3]; rfl
  have d1'' : W3.cell? ⟨b, q * 4 + 1, none⟩ = some (.int .i64 ((n : Int) + 1)) := by
    rw [Lib.cell_of_heap hB3]
    have := hup.2 (q * 4 + 1)
    rw [if_pos rfl] at this
    exact this
  have HU : Hid (upA cur _ q 1 n) := hup
  have HB3 : Hid (W3.heap[b]? = _) := hB3
  have hbut : Hid (But b (.slice none 0 0) w W3) := ⟨ho3.1.trans hbl.os, ho3.2.1.trans hbl.tape, ho3.2.2.1.trans hbl.output, by rw [ho3.2.2.2]; exact hbl.size, fun k hk hkb _ => (hk3 k hkb).trans (hbl.block k hk)⟩
  clear hup hB3 hk3 ho3 hN3 hB2 hk2 ho2 hN2 e1' hN hB hbl hW3 hclr
  go_wp2_with fail
  go_quiet (fail)
  go_wp2_with fail
  go_ret
  exact ⟨rfl, ⟨_, HB3.out, HU.out⟩, hbut.out.drewN _⟩

set_option maxHeartbeats 4000000 in
set_option maxRecDepth 100000 in
theorem add_2 (b q n : Nat) (hq : q < 8) (hn : n < 100000) (cur : Array Value) (T : TypeId) (w : World) (hb : w.heap[b]? = some (.cells cur T (0, 0))) (hs : cur.size = 32) (c1 : cur[q * 4 + 2]? = some (.int .i64 n)) :
    Calls Tryd.prog 28 #[.pointer (some ⟨b, 0, none⟩), .agg #[.int .i64 ((q : Int) + 1), .int .i64 2]] w fun e w' => e = .returned (.int .i64 ((n : Int) + 1)) ∧ (∃ cur', w'.heap[b]? = some (.cells cur' T (0, 0)) ∧ upA cur cur' q 2 n) ∧ But b (.slice none 0 0) w w' := by
  have mixed : Tryd.prog.follows Departure.mixedOrders = true := by kernel_rfl
  have hbw : b < w.heap.size := (Array.getElem?_eq_some_iff.1 hb).1
  go_enter Tryd.func28, Tryd.ntmps28
  go_wp2_with fail
  obtain ⟨W1, hW1⟩ : ∃ W1, w.alloc (.cells #[.int .i64 ((q : Int) + 1), .int .i64 2] 37) = W1 := ⟨_, rfl⟩
  have hN : W1.heap[w.heap.size]? = some (.cells #[.int .i64 ((q : Int) + 1), .int .i64 2] 37 (0, 0)) := by rw [← hW1]; exact heap_new w _
  have hB : W1.heap[b]? = some (.cells cur T (0, 0)) := by rw [← hW1]; exact (Below.heap_alloc _ _ _ hbw).trans hb
  have hbl : Below w.heap.size w W1 := by rw [← hW1]; exact (Below.refl _ w).alloc (Nat.le_refl _) _
  have e0 : W1.cell? ⟨w.heap.size, 0, none⟩ = some (.int .i64 ((q : Int) + 1)) := by rw [Lib.cell_of_heap hN]; rfl
  have e1 : W1.cell? ⟨w.heap.size, 1, none⟩ = some (.int .i64 2) := by rw [Lib.cell_of_heap hN]; rfl
  have d1 : W1.cell? ⟨b, q * 4 + 2, none⟩ = some (.int .i64 n) := by rw [Lib.cell_of_heap hB]; exact c1
  have f1 : W1.frozen? ⟨b, q * 4 + 2, none⟩ = false := Lib.frozen_of_heap hB _
  rw [hW1]
  have hX : w.heap.size ≠ b := by omega
  have hq8 : (q : Int) < 8 := by omega
  go_quiet (fail)
  go_wp2_with fail
  go_region
  go_wp2_with fail
  have hB2 := heap_set hB (nq + 1) (q * 4 + 2) (.int .i64 ((n : Int) + 1))
  have hk2 : ∀ k, k ≠ b → ((W1.drewN (nq + 1)).setCell ⟨b, q * 4 + 2, none⟩ (.int .i64 ((n : Int) + 1))).heap[k]? = W1.heap[k]? := fun k hk => Below.heap_setCell _ ⟨b, q * 4 + 2, none⟩ _ _ hk
  have ho2 : ((W1.drewN (nq + 1)).setCell ⟨b, q * 4 + 2, none⟩ (.int .i64 ((n : Int) + 1))).os = W1.os ∧ ((W1.drewN (nq + 1)).setCell ⟨b, q * 4 + 2, none⟩ (.int .i64 ((n : Int) + 1))).tape = W1.tape ∧ ((W1.drewN (nq + 1)).setCell ⟨b, q * 4 + 2, none⟩ (.int .i64 ((n : Int) + 1))).output = W1.output ∧ ((W1.drewN (nq + 1)).setCell ⟨b, q * 4 + 2, none⟩ (.int .i64 ((n : Int) + 1))).heap.size = W1.heap.size := ⟨rfl, rfl, rfl, by simp⟩
  obtain ⟨W2, hW2⟩ : ∃ W2, ((W1.drewN (nq + 1)).setCell ⟨b, q * 4 + 2, none⟩ (.int .i64 ((n : Int) + 1))) = W2 := ⟨_, rfl⟩
  rw [hW2] at hB2 hk2 ho2
  have hN2 : W2.heap[w.heap.size]? = _ := (hk2 _ hX).trans hN
  have e1' : W2.cell? ⟨w.heap.size, 1, none⟩ = some (.int .i64 2) := by rw [Lib.cell_of_heap hN2]; rfl
  rw [hW2]
  have hclr : ∀ ty, (Builtin.clear_ #[32] ty #[.slice (some ⟨b, q * 4 + 3, none⟩) 1 1]).run Tryd.prog W2.drew = .ok (.tuple #[]) (W2.drew.setCells b (q * 4 + 3) (List.replicate 1 (.int .i64 0))) := fun ty =>
    Lib.run_clear_slice W2.drew 32 3 ty (.int .i64 0) Tryd.underlying32 Tryd.zeroValue3 rfl rfl b (q * 4 + 3) 1 1 (by omega) (fun j hj => by
      show (W2.cell? _).isSome = true
      rw [Lib.cell_of_heap hB2, Array.getElem?_setIfInBounds_ne (by omega), Array.getElem?_eq_getElem (by omega)]; rfl) (fun j _ => Lib.frozen_of_heap hB2 _)
  clear hW2 hW1 e0 e1 d1 f1
  go_region
  have hB3 : (W2.drew.setCells b (q * 4 + 3) [.int .i64 0]).heap[b]? = some (.cells (setArr (cur.setIfInBounds (q * 4 + 2) (.int .i64 ((n : Int) + 1))) (q * 4 + 2 + 1) (List.replicate 1 (.int .i64 0))) T (0, 0)) := heap_setCells b T (0, 0) [.int .i64 0] (q * 4 + 3) W2.drew _ hB2
  have hk3 : ∀ k, k ≠ b → (W2.drew.setCells b (q * 4 + 3) [.int .i64 0]).heap[k]? = W1.heap[k]? := fun k hk => (heap_setCells_ne hk [.int .i64 0] (q * 4 + 3) W2.drew).trans (hk2 k hk)
  have ho3 : (W2.drew.setCells b (q * 4 + 3) [.int .i64 0]).os = W1.os ∧ (W2.drew.setCells b (q * 4 + 3) [.int .i64 0]).tape = W1.tape ∧ (W2.drew.setCells b (q * 4 + 3) [.int .i64 0]).output = W1.output ∧ (W2.drew.setCells b (q * 4 + 3) [.int .i64 0]).heap.size = W1.heap.size := by
    obtain ⟨h1, h2, h3, h4⟩ := setCells_os b [.int .i64 0] (q * 4 + 3) W2.drew
    exact ⟨h1.trans ho2.1, h2.trans ho2.2.1, h3.trans ho2.2.2.1, h4.trans ho2.2.2.2⟩
  obtain ⟨W3, hW3⟩ : ∃ W3, W2.drew.setCells b (q * 4 + 3) [.int .i64 0] = W3 := ⟨_, rfl⟩
  rw [hW3] at hB3 hk3 ho3 ⊢
  have hN3 : W3.heap[w.heap.size]? = _ := (hk3 _ hX).trans hN
  have hup := upA_of hs (lv := 2) (n := n) (k := 1) hq (by omega)
  have e1'' : W3.cell? ⟨w.heap.size, 1, none⟩ = some (.int .i64 2) := by rw [Lib.cell_of_heap hN3]; rfl
  have d1'' : W3.cell? ⟨b, q * 4 + 2, none⟩ = some (.int .i64 ((n : Int) + 1)) := by
    rw [Lib.cell_of_heap hB3]
    have := hup.2 (q * 4 + 2)
    rw [if_pos rfl] at this
    exact this
  have HU : Hid (upA cur _ q 2 n) := hup
  have HB3 : Hid (W3.heap[b]? = _) := hB3
  have hbut : Hid (But b (.slice none 0 0) w W3) := ⟨ho3.1.trans hbl.os, ho3.2.1.trans hbl.tape, ho3.2.2.1.trans hbl.output, by rw [ho3.2.2.2]; exact hbl.size, fun k hk hkb _ => (hk3 k hkb).trans (hbl.block k hk)⟩
  clear hup hB3 hk3 ho3 hN3 hB2 hk2 ho2 hN2 e1' hN hB hbl hW3 hclr
  go_wp2_with fail
  go_quiet (fail)
  go_wp2_with fail
  go_ret
  exact ⟨rfl, ⟨_, HB3.out, HU.out⟩, hbut.out.drewN _⟩

set_option maxHeartbeats 4000000 in
set_option maxRecDepth 100000 in
theorem add_3 (b q n : Nat) (hq : q < 8) (hn : n < 100000) (cur : Array Value) (T : TypeId) (w : World) (hb : w.heap[b]? = some (.cells cur T (0, 0))) (hs : cur.size = 32) (c1 : cur[q * 4 + 3]? = some (.int .i64 n)) :
    Calls Tryd.prog 28 #[.pointer (some ⟨b, 0, none⟩), .agg #[.int .i64 ((q : Int) + 1), .int .i64 3]] w fun e w' => e = .returned (.int .i64 ((n : Int) + 1)) ∧ (∃ cur', w'.heap[b]? = some (.cells cur' T (0, 0)) ∧ upA cur cur' q 3 n) ∧ But b (.slice none 0 0) w w' := by
  have mixed : Tryd.prog.follows Departure.mixedOrders = true := by kernel_rfl
  have hbw : b < w.heap.size := (Array.getElem?_eq_some_iff.1 hb).1
  go_enter Tryd.func28, Tryd.ntmps28
  go_wp2_with fail
  obtain ⟨W1, hW1⟩ : ∃ W1, w.alloc (.cells #[.int .i64 ((q : Int) + 1), .int .i64 3] 37) = W1 := ⟨_, rfl⟩
  have hN : W1.heap[w.heap.size]? = some (.cells #[.int .i64 ((q : Int) + 1), .int .i64 3] 37 (0, 0)) := by rw [← hW1]; exact heap_new w _
  have hB : W1.heap[b]? = some (.cells cur T (0, 0)) := by rw [← hW1]; exact (Below.heap_alloc _ _ _ hbw).trans hb
  have hbl : Below w.heap.size w W1 := by rw [← hW1]; exact (Below.refl _ w).alloc (Nat.le_refl _) _
  have e0 : W1.cell? ⟨w.heap.size, 0, none⟩ = some (.int .i64 ((q : Int) + 1)) := by rw [Lib.cell_of_heap hN]; rfl
  have e1 : W1.cell? ⟨w.heap.size, 1, none⟩ = some (.int .i64 3) := by rw [Lib.cell_of_heap hN]; rfl
  have d1 : W1.cell? ⟨b, q * 4 + 3, none⟩ = some (.int .i64 n) := by rw [Lib.cell_of_heap hB]; exact c1
  have f1 : W1.frozen? ⟨b, q * 4 + 3, none⟩ = false := Lib.frozen_of_heap hB _
  rw [hW1]
  have hX : w.heap.size ≠ b := by omega
  have hq8 : (q : Int) < 8 := by omega
  go_quiet (fail)
  go_wp2_with fail
  go_region
  go_wp2_with fail
  have hB2 := heap_set hB (nq + 1) (q * 4 + 3) (.int .i64 ((n : Int) + 1))
  have hk2 : ∀ k, k ≠ b → ((W1.drewN (nq + 1)).setCell ⟨b, q * 4 + 3, none⟩ (.int .i64 ((n : Int) + 1))).heap[k]? = W1.heap[k]? := fun k hk => Below.heap_setCell _ ⟨b, q * 4 + 3, none⟩ _ _ hk
  have ho2 : ((W1.drewN (nq + 1)).setCell ⟨b, q * 4 + 3, none⟩ (.int .i64 ((n : Int) + 1))).os = W1.os ∧ ((W1.drewN (nq + 1)).setCell ⟨b, q * 4 + 3, none⟩ (.int .i64 ((n : Int) + 1))).tape = W1.tape ∧ ((W1.drewN (nq + 1)).setCell ⟨b, q * 4 + 3, none⟩ (.int .i64 ((n : Int) + 1))).output = W1.output ∧ ((W1.drewN (nq + 1)).setCell ⟨b, q * 4 + 3, none⟩ (.int .i64 ((n : Int) + 1))).heap.size = W1.heap.size := ⟨rfl, rfl, rfl, by simp⟩
  obtain ⟨W2, hW2⟩ : ∃ W2, ((W1.drewN (nq + 1)).setCell ⟨b, q * 4 + 3, none⟩ (.int .i64 ((n : Int) + 1))) = W2 := ⟨_, rfl⟩
  rw [hW2] at hB2 hk2 ho2
  have hN2 : W2.heap[w.heap.size]? = _ := (hk2 _ hX).trans hN
  have e1' : W2.cell? ⟨w.heap.size, 1, none⟩ = some (.int .i64 3) := by rw [Lib.cell_of_heap hN2]; rfl
  rw [hW2]
  have hclr : ∀ ty, (Builtin.clear_ #[32] ty #[.slice (some ⟨b, q * 4, none⟩) 0 0]).run Tryd.prog W2.drew = .ok (.tuple #[]) W2.drew := fun ty => by
    simp [Builtin.clear_, run_underlying Tryd.underlying32]
  clear hW2 hW1 e0 e1 d1 f1
  go_region
  have hB3 : (W2.drew).heap[b]? = some (.cells (setArr (cur.setIfInBounds (q * 4 + 3) (.int .i64 ((n : Int) + 1))) (q * 4 + 3 + 1) (List.replicate 0 (.int .i64 0))) T (0, 0)) := hB2
  have hk3 : ∀ k, k ≠ b → (W2.drew).heap[k]? = W1.heap[k]? := fun k hk => hk2 k hk
  have ho3 : (W2.drew).os = W1.os ∧ (W2.drew).tape = W1.tape ∧ (W2.drew).output = W1.output ∧ (W2.drew).heap.size = W1.heap.size := by
    exact ho2
  obtain ⟨W3, hW3⟩ : ∃ W3, W2.drew = W3 := ⟨_, rfl⟩
  rw [hW3] at hB3 hk3 ho3 ⊢
  have hN3 : W3.heap[w.heap.size]? = _ := (hk3 _ hX).trans hN
  have hup := upA_of hs (lv := 3) (n := n) (k := 0) hq (by omega)
  have e1'' : W3.cell? ⟨w.heap.size, 1, none⟩ = some (.int .i64 3) := by rw [Lib.cell_of_heap hN3]; rfl
  have d1'' : W3.cell? ⟨b, q * 4 + 3, none⟩ = some (.int .i64 ((n : Int) + 1)) := by
    rw [Lib.cell_of_heap hB3]
    have := hup.2 (q * 4 + 3)
    rw [if_pos rfl] at this
    exact this
  have HU : Hid (upA cur _ q 3 n) := hup
  have HB3 : Hid (W3.heap[b]? = _) := hB3
  have hbut : Hid (But b (.slice none 0 0) w W3) := ⟨ho3.1.trans hbl.os, ho3.2.1.trans hbl.tape, ho3.2.2.1.trans hbl.output, by rw [ho3.2.2.2]; exact hbl.size, fun k hk hkb _ => (hk3 k hkb).trans (hbl.block k hk)⟩
  clear hup hB3 hk3 ho3 hN3 hB2 hk2 ho2 hN2 e1' hN hB hbl hW3 hclr
  go_wp2_with fail
  go_quiet (fail)
  go_wp2_with fail
  go_ret
  exact ⟨rfl, ⟨_, HB3.out, HU.out⟩, hbut.out.drewN _⟩

end Go.Proofs.YtjagnidkjpmkcaaDoor
