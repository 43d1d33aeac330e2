/-
  What is proved here: what With of style answers, and the document's own With.
-/
import Derived.Test.YtifkelpgpdgenaaWalkE
import Derived.Test.YtifkelpgpdgenaaWalkF
namespace Go.Proofs.Ytifkelpgpdgenaa
open Go.RowKit Go.Shelf

theorem zeros : (Obj.cells #[Value.int IntKind.i64 0, Value.int IntKind.i64 0, Value.int IntKind.i64 0, Value.int IntKind.i64 0, Value.int IntKind.i64 0, Value.int IntKind.i64 0, Value.int IntKind.i64 0, Value.int IntKind.i64 0, Value.int IntKind.i64 0, Value.int IntKind.i64 0, Value.int IntKind.i64 0, Value.int IntKind.i64 0, Value.int IntKind.i64 0, Value.int IntKind.i64 0, Value.int IntKind.i64 0, Value.int IntKind.i64 0, Value.int IntKind.i64 0] 23) = .cells (prC zeroL) 23 := rfl
theorem zeros38 : (Obj.cells #[Value.int IntKind.i64 0, Value.int IntKind.i64 0, Value.int IntKind.i64 0, Value.int IntKind.i64 0, Value.int IntKind.i64 0, Value.int IntKind.i64 0, Value.int IntKind.i64 0, Value.int IntKind.i64 0, Value.int IntKind.i64 0, Value.int IntKind.i64 0, Value.int IntKind.i64 0, Value.int IntKind.i64 0, Value.int IntKind.i64 0, Value.int IntKind.i64 0, Value.int IntKind.i64 0, Value.int IntKind.i64 0, Value.int IntKind.i64 0] 38) = .cells (prC zeroL) 38 := rfl

/-- Properties, a setting and room for properties, made one behind the other. -/
structure Three (w w3 : World) (l : List Int) (n v : Int) : Prop where
  below : Below w.heap.size w w3
  size : w3.heap.size = w.heap.size + 3
  old : PB w3 w.heap.size 23 l
  se : w3.heap[w.heap.size + 1]? = some (.cells #[.int .i64 n, .int .i64 v] 37)
  room : PB w3 (w.heap.size + 2) 23 zeroL
theorem three (w : World) {l : List Int} (hl : l.length = 17) (n v : Int) :
    Three w (((w.alloc (.cells (prC l) 23)).alloc (.cells #[.int .i64 n, .int .i64 v] 37)).alloc (.cells (prC zeroL) 23)) l n v := by
  refine ⟨(((Below.refl _ w).alloc (Nat.le_refl _) _).alloc (by simp) _).alloc (by simp; omega) _, by simp, ⟨hl, ?_⟩, ?_, ⟨rfl, ?_⟩⟩
  all_goals (show (((w.heap.push _).push _).push _)[_]? = _; simp only [Array.getElem?_push, Array.size_push]; repeat (first | rw [if_pos trivial] | rw [if_pos (by omega)] | rw [if_neg (by omega)]))
theorem se_cells {w : World} {g : Nat} {n v : Int} (h : w.heap[g]? = some (.cells #[.int .i64 n, .int .i64 v] 37)) : w.cell? ⟨g, 0, none⟩ = some (.int .i64 n) ∧ w.cell? ⟨g, 1, none⟩ = some (.int .i64 v) := by
  constructor <;> (rw [Lib.cell_of_heap h]; rfl)
theorem results_cell_row2 {P : Program} {fn : Func} {p u : Tmp} {ty : TypeId} (h : fn.results = #[.cell p ty, .tmp u]) (tmps : Array Value) (w : World) (g : Nat) (t : TypeId) (cs : Array Value) (fr : Nat × Nat) (d : TypeDesc)
    (hp : tmps.getD p undef = .pointer (some ⟨g, 0, none⟩)) (hg : w.heap[g]? = some (.cells cs t fr))
    (hu : P.underlying ty = some d) (hd : (match d with | .struct _ | .array _ _ => true | _ => false) = true) (hi : (P.info? ty).map (·.size) = some cs.size) :
    (results fn tmps).run P w = .ok (.tuple #[.agg cs, tmps.getD u undef]) w := by
  have hp' : tmps[p]?.getD undef = .pointer (some ⟨g, 0, none⟩) := by simpa using hp
  rw [results_cell_tmp h]
  simp [hp', asAddr, run_loadVar_row w g t ty cs fr d hg hu hd hi, Result.andThen]

set_option maxRecDepth 100000 in
set_option maxHeartbeats 4000000 in
theorem with_no (l : List Int) (hl : l.length = 17) (n v : Int) (hn : mayS n v = false) (w : World) : Calls Try.prog 16 #[prV l, seV n v] w fun e w' => e = .returned (.tuple #[prV zeroL, .int .i64 2]) ∧ Below w.heap.size w w' := by
  have h3 := three w hl n v
  have hm := may_any n v
  rw [hn] at hm
  unfold prV seV at *
  generalize hw3 : (((w.alloc (.cells (prC l) 23)).alloc (.cells #[.int .i64 n, .int .i64 v] 37)).alloc (.cells (prC zeroL) 23)) = w3 at h3
  go_enter Try.func16, Try.ntmps16
  go_wp2_with fail
  try rw [zeros]
  try rw [hw3]
  clear hw3
  refine (hm _).mono ?_
  rintro e w4 ⟨rfl, hb⟩
  have hB := h3.below.trans (hb.mono h3.below.size)
  have hR := h3.room.below hb h3.room.lt
  have hE : Hid _ := And.intro (hR.setRow (l' := zeroL) rfl) (below_setRow hB (Nat.le_add_right w.heap.size 2) (prC zeroL))
  go_wp2_with (refine wpList_store_row rfl 23 _ _ rfl (w.heap.size + 2) (prC zeroL) rfl rfl 23 _ hR.row (info23l rfl) rfl (prC_one _) ?_)
  refine bodyPost_ret (results_cell_row2 rfl _ _ (w.heap.size + 2) 23 _ (0, 0) _ rfl hE.out.1.row Try.underlying23 rfl (info23l rfl)) rfl ?_
  exact ⟨rfl, hE.out.2⟩

theorem mayS_isP {n v : Int} (h : mayS n v = true) : 1 ≤ n ∧ n ≤ 17 := by
  unfold mayS at h
  cases hp : isP n
  · rw [hp] at h; cases h
  · exact (isP_iff n).1 hp

theorem sets_one {w : World} {n v : Int} : SetsAt (w.alloc (.cells #[.int .i64 n, .int .i64 v] 37)) (.slice (some ⟨w.heap.size, 0, none⟩) 1 1) [(n, v)] := by
  refine ⟨⟨_, 1, rfl, .inr ⟨w.heap.size, 0, rfl, by simp, fun i hi => ?_⟩⟩, by simp⟩
  obtain rfl : i = 0 := by simpa using hi
  have h := heap_new w (.cells #[.int .i64 n, .int .i64 v] 37)
  exact se_cells h

set_option maxRecDepth 100000 in
set_option maxHeartbeats 4000000 in
theorem with_yes (l : List Int) (hl : l.length = 17) (n v : Int) (hn : mayS n v = true) (w : World) : Calls Try.prog 16 #[prV l, seV n v] w fun e w' => e = .returned (.tuple #[prV (setP l (n, v)), .int .i64 0]) ∧ Below w.heap.size w w' := by
  have h3 := three w hl n v
  have hm := may_any n v
  have hap := fun W hS => apply_any l hl (.slice (some ⟨W, 0, none⟩) 1 1) [(n, v)] (fun q hq => by obtain rfl := List.mem_singleton.1 hq; exact mayS_isP hn) hS
  rw [hn] at hm
  unfold prV seV at *
  have hap' : Hid _ := hap
  clear hap
  generalize hw3 : (((w.alloc (.cells (prC l) 23)).alloc (.cells #[.int .i64 n, .int .i64 v] 37)).alloc (.cells (prC zeroL) 23)) = w3 at h3
  go_enter Try.func16, Try.ntmps16
  go_wp2_with fail
  try rw [zeros]
  try rw [hw3]
  clear hw3
  refine (hm _).mono ?_
  rintro e w4 ⟨rfl, hb⟩
  have hB := h3.below.trans (hb.mono h3.below.size)
  have hR := h3.room.below hb h3.room.lt
  have hO := h3.old.below hb h3.old.lt
  obtain ⟨c0, c1⟩ := se_cells ((hb.block _ (by have := h3.size; omega)).trans h3.se)
  go_wp2_with (refine wpList_load_row rfl 23 _ rfl w.heap.size rfl 23 _ (0, 0) _ hO.row Try.underlying23 rfl (info23l hl) ?_)
  refine (hap'.out _ _ (by exact sets_one)).mono ?_
  rintro e w5 ⟨rfl, hb5⟩
  have hA4 := (Below.refl w4.heap.size w4).alloc (Nat.le_refl _) (Obj.cells #[.int .i64 n, .int .i64 v] 37)
  have h45 := hA4.trans (hb5.mono hA4.size)
  have hB5 := hB.trans (h45.mono hB.size)
  have hR5 := hR.below h45 hR.lt
  have hl5 : (applyL l [(n, v)]).length = 17 := by rw [applyL_length]; exact hl
  have hE : Hid _ := And.intro (hR5.setRow hl5) (below_setRow hB5 (Nat.le_add_right w.heap.size 2) (prC (applyL l [(n, v)])))
  go_wp2_with (refine wpList_store_row rfl 23 _ _ rfl (w.heap.size + 2) (prC (applyL l [(n, v)])) rfl rfl 23 _ hR5.row (info23l hl5) (by rw [prC_size, prC_size, hl5]; rfl) (prC_one _) ?_)
  refine bodyPost_ret (results_cell_row2 rfl _ _ (w.heap.size + 2) 23 _ (0, 0) _ rfl hE.out.1.row Try.underlying23 rfl (info23l hl5)) rfl ?_
  exact ⟨rfl, hE.out.2⟩
end Go.Proofs.Ytifkelpgpdgenaa
