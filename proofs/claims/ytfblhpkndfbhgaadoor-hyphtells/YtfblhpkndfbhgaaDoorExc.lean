/-
  What is proved here: what isException answers.
-/
import Derived.Test.YtfblhpkndfbhgaaDoorSplit
namespace Go.Proofs.YtfblhpkndfbhgaaDoor
open Go.RowKit Go.Shelf
attribute [local go_sem] Oper.semAt_some wide_fn wide_depth

def partB (p : Bs) : Bool := !p.isEmpty && p.all sml
/-- An exception. -/
def excB (l : Bs) : Bool := decide (2 ≤ l.length - l.count 45) && (decide (l.length - l.count 45 ≤ 64) && (parts l).all partB)
theorem count_le (l : Bs) : l.count 45 ≤ l.length := List.count_le_length
theorem Steady.pure (p : Nat → Prop) : Steady (fun i _ _ => p i) := fun _ _ _ _ _ hs _ _ => hs
theorem allocs3 (w : World) (a b c : Obj) : (((w.alloc a).alloc b).alloc c).heap[w.heap.size]? = some a ∧ (((w.alloc a).alloc b).alloc c).heap[w.heap.size + 1]? = some b ∧ (((w.alloc a).alloc b).alloc c).heap[w.heap.size + 2]? = some c := by
  refine ⟨?_, ?_, ?_⟩ <;> (show (((w.heap.push a).push b).push c)[_]? = _; simp only [Array.getElem?_push, Array.size_push]; repeat (first | rw [if_pos trivial] | rw [if_pos (by omega)] | rw [if_neg (by omega)]))
theorem splitW_read (x : ByteArray) (w : World) : ∀ W, Turns Noth (splitW x w) W → Read3 w.heap.size x W := fun W ht => by
  obtain ⟨h0, h1, h2⟩ := allocs3 w (.cells #[.string x] 9) (.cells #[.string ⟨#[45]⟩] 9) (.cells #[.int .i64 0] 3)
  have b0 : Blk (splitW x w) w.heap.size #[.string x] 9 := h0
  have b1 : Blk (splitW x w) (w.heap.size + 1) #[.string ⟨#[45]⟩] 9 := h1
  have b2 : Blk (splitW x w) (w.heap.size + 2) #[.int .i64 0] 3 := h2
  exact ⟨b0.turns ht (fun h => h), b1.turns ht (fun h => h), b2.turns ht (fun h => h)⟩
theorem splitW_turns (x : ByteArray) (w : World) (X : Nat → Prop) : Turns X w (splitW x w) := ((Turns.alloc _ _ _).trans (Turns.alloc _ _ _)).trans (Turns.alloc _ _ _)
theorem splitW_size (x : ByteArray) (w : World) : (splitW x w).heap.size = w.heap.size + 3 := by simp [splitW]
theorem splitW_base (x : ByteArray) (w : World) (own : Nat → Prop) : Base w own (X3 w.heap.size) (splitW x w) :=
  ⟨splitW_turns x w own, fun k hk => by rw [splitW_size]; rcases hk with rfl | rfl | rfl <;> omega⟩
theorem partN_is {x : ByteArray} {j : Nat} (h : j < (parts x.data.toList).length) : (partN x j).data.toList = (parts x.data.toList)[j]'h := by
  unfold partN
  rw [List.getD_eq_getElem?_getD, List.getElem?_eq_getElem h]; rfl
theorem partAt {x : ByteArray} {j : Nat} (h : j < (parts x.data.toList).length) : (partN x j).data.toList ∈ parts x.data.toList := by
  rw [partN_is h]
  exact List.getElem_mem h
theorem parts_len : ∀ (l p : Bs), p ∈ parts l → p.length ≤ l.length
  | [], p, h => by simp [parts] at h; subst h; simp
  | c :: l, p, h => by
    rw [parts] at h
    split at h
    · rcases List.mem_cons.1 h with rfl | h
      · simp
      · have := parts_len l p h; simp; omega
    · have hp := parts_ne l
      split at h
      · rename_i a b e
        rcases List.mem_cons.1 h with rfl | h
        · have := parts_len l a (by rw [e]; simp); simp; omega
        · have := parts_len l p (by rw [e]; simp [h]); simp; omega
      · rename_i e; exact absurd e hp

theorem run_loadVar_one {P : Program} (w : World) (ty : TypeId) (v : Value) (g : Nat) (hA : (isAgg ty).run P w = .ok false w) (hc : w.cell? ⟨g, 0, none⟩ = some v) : (loadVar ty ⟨g, 0, none⟩).run P w = .ok v w := by
  simp [loadVar, Sem.run_bind, hA, hc, go_sem]
theorem results_cells1 {P : Program} {fn : Func} {p : Tmp} {t : TypeId} (h : fn.results = #[.cell p t]) (tmps : Array Value) (w : World) (g : Nat) (x : Value)
    (hp : tmps.getD p undef = .pointer (some ⟨g, 0, none⟩)) (hA : (isAgg t).run P w = .ok false w)
    (hx : w.cell? ⟨g, 0, none⟩ = some x) : (results fn tmps).run P w = .ok x w := by
  have hp' : tmps[p]?.getD undef = .pointer (some ⟨g, 0, none⟩) := by simpa using hp
  simp [results, h, hp', asAddr, run_loadVar_one w t x g hA hx]
theorem agg_no {P : Program} {t : TypeId} {d : TypeDesc} (hu : P.underlying t = some d) (hd : (match d with | .struct _ | .array _ _ => true | _ => false) = false) (w : World) : (isAgg t).run P w = .ok false w := by
  unfold isAgg
  rw [Sem.run_bind, run_underlying hu w]
  cases d <;> simp_all
theorem heap_put {W : World} {D k : Nat} (h : k ≠ D) (o : Obj) : (W.putObj D o).heap[k]? = W.heap[k]? := World.putObj_heap_other h
theorem parts_all_no {x : ByteArray} {j : Nat} (h : j < (parts x.data.toList).length) (hb : partB (partN x j).data.toList = false) : (parts x.data.toList).all partB = false := by
  rw [List.all_eq_false]
  exact ⟨_, partAt h, by rw [hb]; simp⟩
theorem parts_all_yes {x : ByteArray} (h : ∀ j, j < (parts x.data.toList).length → partB (partN x j).data.toList = true) : (parts x.data.toList).all partB = true := by
  rw [List.all_eq_true]
  intro p hp
  obtain ⟨j, hj, rfl⟩ := List.getElem_of_mem hp
  have := h j hj
  rwa [partN_is hj] at this

set_option maxRecDepth 100000 in
set_option maxHeartbeats 1000000 in
theorem isException_any (x : ByteArray) (hx : x.size ≤ 1000000) (w : World) : Calls Tryd.prog 29 #[.string x] w fun e w' => e = .returned (.bool (excB x.data.toList)) ∧ Below w.heap.size w w' := by
  have hC : ∀ w, Calls Tryd.prog 47 #[.string x, .string ⟨#[45]⟩] w fun e w' => e = .returned (.int .i64 ((x.data.toList.count 45 : Nat) : Int)) ∧ w' = w := fun w => Tryd.strings_Count_one x 45 w
  have hcl := count_le x.data.toList
  rw [size_ba] at hcl
  by_cases hb : 2 ≤ x.size - x.data.toList.count 45 ∧ x.size - x.data.toList.count 45 ≤ 64
  · have hE : excB x.data.toList = (parts x.data.toList).all partB := by unfold excB; rw [size_ba, decide_eq_true hb.1, decide_eq_true hb.2]; rfl
    rw [hE]
    generalize x.data.toList.count 45 = m at *
    obtain ⟨hb1, hb2⟩ := hb
    have f1 : ¬ (x.size : Int) - m < 2 := by omega
    have f2 : ¬ 64 < (x.size : Int) - m := by omega
    clear hE
    refine callsIn_wide (n := 0).1 ?_
    refine callsIn_of_wp_marks Tryd.func29 rfl trivial ?_ rfl
    simp only [Tryd.ntmps29, List.size_toArray, List.length_cons, List.length_nil, Nat.reduceAdd, Nat.reduceSub, Array.replicate_succ, Array.replicate_zero, List.push_toArray, List.append_toArray, List.nil_append, List.cons_append]
    gi_wp2_with (first | (gi_at_call 47; refine (callsIn_wide.2 (hC _)).mono ?_; rintro e w' ⟨rfl, hww⟩; subst w') | (gi_at_call 48; refine (callsIn_wide.2 (split_any _ _)).mono ?_; rintro e w' ⟨rfl, rfl⟩))
    obtain ⟨w1, hw1⟩ : ∃ w1, w.alloc (.cells #[.bool false] 4) = w1 := ⟨_, rfl⟩
    have hs1 : w1.heap.size = w.heap.size + 1 := by rw [← hw1]; simp
    have hB0 : w1.heap[w.heap.size]? = some (.cells #[.bool false] 4 (0, 0)) := by rw [← hw1]; exact World.alloc_heap_new w _
    have hT1 : Turns Noth w w1 := by rw [← hw1]; exact Turns.alloc _ _ _
    rw [hw1, ← hs1]
    have hpl : ∀ j, j < (parts x.data.toList).length → (partN x j).data.toList.length ≤ x.size := fun j hj => by rw [← size_ba]; exact parts_len _ _ (partAt hj)
    have hno : ∀ j, j < (parts x.data.toList).length → partB (partN x j).data.toList = false → (parts x.data.toList).all partB = false := fun j hj hb => parts_all_no hj hb
    have hyes : (∀ j, j < (parts x.data.toList).length → partB (partN x j).data.toList = true) → (parts x.data.toList).all partB = true := parts_all_yes
    refine wp_rangeX (gf := 83) (lb := splitV w1.heap.size) rfl (enters_of Tryd.func83 (by kernel_rfl) rfl) (split1_gives w1.heap.size x hx) (fun _ => rfl)
      (fun j X W => (Base w1 (fun k => k = w.heap.size) X W ∧ W.heap[w.heap.size]? = some (.cells #[.bool false] 4 (0, 0))) ∧ ∀ i, i < j → partB (partN x i).data.toList = true)
      (fun c j X W => (Base w1 (fun k => k = w.heap.size) X W ∧ W.heap[w.heap.size]? = some (.cells #[.bool false] 4 (0, 0))) ∧ (parts x.data.toList).all partB = false ∧ c = .ret)
      (fun a' j X W => ((Base w1 (fun k => k = w.heap.size) X W ∧ W.heap[w.heap.size]? = some (.cells #[.bool false] 4 (0, 0))) ∧ ∀ i, i < j → partB (partN x i).data.toList = true) ∧
        a' = { tmps := #[.string x, undef, .pointer (some ⟨w.heap.size, 0, none⟩), .int .i64 ((x.size : Int) - m), .string (partN x j), .string x, .int .i64 x.size, .string x, .int .i64 m, .int .i64 ((x.size : Int) - m), .int .i64 ((x.size : Int) - m), .bool (decide ((x.size : Int) - m < 2)), .bool (decide ((x.size : Int) - m < 2)), .int .i64 ((x.size : Int) - m), .bool (decide (64 < (x.size : Int) - m)), .bool (decide ((x.size : Int) - m < 2) || decide (64 < (x.size : Int) - m)), .string x, .func (.func 83) #[] (splitV w1.heap.size), .string (partN x j), undef, undef, undef, undef, undef, undef, undef], defers := [] })
      ((steady_box (by omega) (fun _ => _)).and (Steady.pure _)) (fun c => (steady_box (by omega) (fun _ => _)).and (Steady.pure (fun _ => _))) (fun a' => ((steady_box (by omega) (fun _ => _)).and (Steady.pure _)).and (Steady.pure _)) (splitW_read x w1) ?hX ⟨⟨splitW_base x w1 _, ?h0⟩, fun i hi => by omega⟩ ?assign ?body ?done ?stop
    case hX => intro k hk; rw [splitW_size]; rcases hk with rfl | rfl | rfl <;> omega
    case h0 => exact ((splitW_turns x w1 Noth).block _ (by omega) (fun h => h)).trans hB0
    case assign =>
      rintro l j X W K hj ⟨⟨hb, hv⟩, hji⟩ hK
      unfold encP
      gi_wp2
      exact hK _ _ (Keeps.refl _ _) ⟨⟨⟨hb, hv⟩, hji⟩, by rw [hs1]⟩
    case body =>
      rintro l j X a' W hj ⟨⟨⟨hb, hv⟩, hji⟩, rfl⟩
      have hpl' := hpl j hj
      have hno' := hno j hj
      have hji2 : partB (partN x j).data.toList = true → ∀ i, i < j + 1 → partB (partN x i).data.toList = true := fun hp i hi => by
        by_cases h : i < j
        · exact hji i h
        · obtain rfl : i = j := by omega
          exact hp
      generalize partN x j = q at *
      have hqe := isEmpty_ba q
      have hA := allSmall_any q (by rw [← size_ba]; omega) W
      have hf0 : W.frozen? ⟨w.heap.size, 0, none⟩ = false := Lib.frozen_of_heap hv 0
      have hc0 : W.cell? ⟨w.heap.size, 0, none⟩ = some (.bool false) := by rw [Lib.cell_of_heap hv]; rfl
      have hv' : (W.setCell ⟨w.heap.size, 0, none⟩ (.bool false)).heap[w.heap.size]? = some (.cells #[.bool false] 4 (0, 0)) := Blk.set (show Blk W w.heap.size #[.bool false] 4 from hv) 0 _
      have hkp : Keeps X W (W.setCell ⟨w.heap.size, 0, none⟩ (.bool false)) := Keeps.set W (fun h => by have := (hb.young _ h).1; simp at this; omega) _
      have hb' : Base w1 (fun k => k = w.heap.size) X (W.setCell ⟨w.heap.size, 0, none⟩ (.bool false)) := hb.set rfl _
      by_cases hq0 : q.size = 0
      · have hr : Hid ((parts x.data.toList).all partB = false) := hno' (by
          obtain rfl := size_zero hq0
          rfl)
        have hE : (ByteArray.toList q).isEmpty = true := by rw [hqe]; simpa using hq0
        have hqh : Hid (q.size = 0) := hq0
        clear hno hno' hyes hji2 hji hqe hq0 hA hpl hpl'
        gi_wp2_with fail
        exact ⟨hkp, ⟨hb', hv'⟩, hr.out, rfl⟩
      · have hE : (ByteArray.toList q).isEmpty = false := by rw [hqe]; simpa using hq0
        have hpe : partB q.data.toList = q.data.toList.all sml := by
          unfold partB
          have : q.data.toList.isEmpty = false := by rw [← ByteArray.toList_eq]; exact hE
          rw [this]; rfl
        cases hs : q.data.toList.all sml with
        | true =>
          rw [hs] at hA
          have hnx : Hid (∀ i, i < j + 1 → partB (partN x i).data.toList = true) := hji2 (by rw [hpe, hs])
          have hqh : Hid (¬ q.size = 0) := hq0
          clear hno hno' hyes hji2 hji hqe hq0 hpl hpl' hpe hs
          gi_wp2_with (gi_at_call 49; refine (callsIn_wide.2 hA).mono ?_; rintro e w' ⟨rfl, hww⟩; subst w')
          exact ⟨Keeps.refl _ _, ⟨hb, hv⟩, hnx.out⟩
        | false =>
          rw [hs] at hA
          have hr : Hid ((parts x.data.toList).all partB = false) := hno' (by rw [hpe, hs])
          have hqh : Hid (¬ q.size = 0) := hq0
          clear hno hno' hyes hji2 hji hqe hq0 hpl hpl' hpe hs
          gi_wp2_with (gi_at_call 49; refine (callsIn_wide.2 hA).mono ?_; rintro e w' ⟨rfl, hww⟩; subst w')
          exact ⟨hkp, ⟨hb', hv'⟩, hr.out, rfl⟩
    case done =>
      rintro D W hD ⟨⟨hb, hv⟩, hji⟩ hK
      rw [splitW_size] at hD
      have hr : Hid ((parts x.data.toList).all partB = true) := hyes hji
      have hf0 : W.frozen? ⟨w.heap.size, 0, none⟩ = false := Lib.frozen_of_heap hv 0
      have hc0 : W.cell? ⟨w.heap.size, 0, none⟩ = some (.bool false) := by rw [Lib.cell_of_heap hv]; rfl
      have hv' : (W.setCell ⟨w.heap.size, 0, none⟩ (.bool true)).heap[w.heap.size]? = some (.cells #[.bool true] 4 (0, 0)) := Blk.set (show Blk W w.heap.size #[.bool false] 4 from hv) 0 _
      clear hji hno hyes hpl
      gi_wp2
      have hK' := (Below.heap_setCell W ⟨w.heap.size, 0, none⟩ (.bool true) D (show D ≠ w.heap.size by omega)).trans hK
      refine ⟨by simp, .inl ⟨_, _, rfl, run_takeDeferred hK', ?_⟩⟩
      refine ⟨_, results_cells1 rfl _ _ w.heap.size (.bool true) rfl (agg_no Tryd.underlying4 rfl _) (by rw [Lib.cell_of_heap ((heap_put (by omega) _).trans hv')]; rfl), by rw [hr.out], below_end hT1 (hb.set rfl _) (fun k h => by omega) _⟩
    case stop =>
      rintro D c j W hD hj ⟨⟨hb, hv⟩, hr, rfl⟩ hK
      rw [splitW_size] at hD
      gi_wp2
      refine ⟨by simp, .inl ⟨_, _, rfl, run_takeDeferred hK, ?_⟩⟩
      refine ⟨_, results_cells1 rfl _ _ w.heap.size (.bool false) rfl (agg_no Tryd.underlying4 rfl _) (by rw [Lib.cell_of_heap ((heap_put (by omega) _).trans hv)]; rfl), by rw [hr], below_end hT1 hb (fun k h => by omega) _⟩
  · have hE : excB x.data.toList = false := by
      unfold excB; rw [size_ba]
      by_cases h2 : 2 ≤ x.size - x.data.toList.count 45
      · rw [decide_eq_false (show ¬ x.size - x.data.toList.count 45 ≤ 64 from fun h => hb ⟨h2, h⟩)]; simp
      · rw [decide_eq_false h2]; rfl
    rw [hE]
    clear hE
    generalize x.data.toList.count 45 = m at *
    have hB : Below w.heap.size w (w.alloc (.cells #[.bool false] 4)) := (Below.refl _ w).alloc (Nat.le_refl _) _
    have hbk : Blk (w.alloc (.cells #[.bool false] 4)) w.heap.size #[.bool false] 4 := World.alloc_heap_new w _
    have hcb : (w.alloc (.cells #[.bool false] 4)).cell? ⟨w.heap.size, 0, none⟩ = some (.bool false) := by rw [hbk.cell]; rfl
    by_cases h2 : (x.size : Int) - m < 2
    · clear hb
      go_enter Tryd.func29, Tryd.ntmps29
      go_wp2_with (go_at_call 47; refine (hC _).mono ?_; rintro e w' ⟨rfl, hww⟩; subst w')
      refine bodyPost_ret (results_cells1 rfl _ _ w.heap.size _ rfl (agg_no Tryd.underlying4 rfl _) hcb) rfl ?_
      exact ⟨rfl, hB⟩
    · have h3 : 64 < (x.size : Int) - m := by omega
      clear hb
      go_enter Tryd.func29, Tryd.ntmps29
      go_wp2_with (go_at_call 47; refine (hC _).mono ?_; rintro e w' ⟨rfl, hww⟩; subst w')
      refine bodyPost_ret (results_cells1 rfl _ _ w.heap.size _ rfl (agg_no Tryd.underlying4 rfl _) hcb) rfl ?_
      exact ⟨rfl, hB⟩
end Go.Proofs.YtfblhpkndfbhgaaDoor
