/-
  What is proved here: what the document's own All and Of answer.
  What is proved here: what the document's own All and Of answer.
  What is proved here: what May of style answers.
  What is proved here: what With of style answers, and the document's own With.
-/
import Derived.Test.YtifkelpgpdgenaaWalkD
namespace Go.Proofs.Ytifkelpgpdgenaa
open Go.RowKit Go.Shelf

theorem all17 {l : List Int} (h : l.length = 17) : ∃ x0 x1 x2 x3 x4 x5 x6 x7 x8 x9 x10 x11 x12 x13 x14 x15 x16, l = [x0, x1, x2, x3, x4, x5, x6, x7, x8, x9, x10, x11, x12, x13, x14, x15, x16] := by
  match l, h with
  | [x0, x1, x2, x3, x4, x5, x6, x7, x8, x9, x10, x11, x12, x13, x14, x15, x16], _ => exact ⟨_, _, _, _, _, _, _, _, _, _, _, _, _, _, _, _, _, rfl⟩

set_option maxRecDepth 100000 in
set_option maxHeartbeats 4000000 in
theorem refAll_any_x (x0 x1 x2 x3 x4 x5 x6 x7 x8 x9 x10 x11 x12 x13 x14 x15 x16 : Int) (w : World) : Calls Try.prog 17 #[.agg #[.int .i64 x0, .int .i64 x1, .int .i64 x2, .int .i64 x3, .int .i64 x4, .int .i64 x5, .int .i64 x6, .int .i64 x7, .int .i64 x8, .int .i64 x9, .int .i64 x10, .int .i64 x11, .int .i64 x12, .int .i64 x13, .int .i64 x14, .int .i64 x15, .int .i64 x16]] w fun e w' => e = .returned (.agg #[.int .i64 x0, .int .i64 x1, .int .i64 x2, .int .i64 x3, .int .i64 x4, .int .i64 x5, .int .i64 x6, .int .i64 x7, .int .i64 x8, .int .i64 x9, .int .i64 x10, .int .i64 x11, .int .i64 x12, .int .i64 x13, .int .i64 x14, .int .i64 x15, .int .i64 x16]) ∧ Below w.heap.size w w' := by
  have hA : Below w.heap.size w ((w.alloc (.cells #[.int .i64 x0, .int .i64 x1, .int .i64 x2, .int .i64 x3, .int .i64 x4, .int .i64 x5, .int .i64 x6, .int .i64 x7, .int .i64 x8, .int .i64 x9, .int .i64 x10, .int .i64 x11, .int .i64 x12, .int .i64 x13, .int .i64 x14, .int .i64 x15, .int .i64 x16] 23)).alloc (.cells (prC zeroL) 38)) := ((Below.refl _ w).alloc (Nat.le_refl _) _).alloc (by simp) _
  have hB2 := below_setRow hA (Nat.le_succ w.heap.size) #[.int .i64 x0, .int .i64 x1, .int .i64 x2, .int .i64 x3, .int .i64 x4, .int .i64 x5, .int .i64 x6, .int .i64 x7, .int .i64 x8, .int .i64 x9, .int .i64 x10, .int .i64 x11, .int .i64 x12, .int .i64 x13, .int .i64 x14, .int .i64 x15, .int .i64 x16]
  have hB : Hid _ := hB2
  clear hA hB2
  go_enter Try.func17, Try.ntmps17
  go_wp2_with (refine wpList_store_row rfl 38 _ _ rfl (w.heap.size + 1) #[.int .i64 x0, .int .i64 x1, .int .i64 x2, .int .i64 x3, .int .i64 x4, .int .i64 x5, .int .i64 x6, .int .i64 x7, .int .i64 x8, .int .i64 x9, .int .i64 x10, .int .i64 x11, .int .i64 x12, .int .i64 x13, .int .i64 x14, .int .i64 x15, .int .i64 x16] rfl rfl 38 _ (heap_alloc2_new w _ _) (by kernel_rfl) (by rfl) (prC_one [x0, x1, x2, x3, x4, x5, x6, x7, x8, x9, x10, x11, x12, x13, x14, x15, x16]) ?_)
  refine bodyPost_ret (results_cell_row rfl _ _ (w.heap.size + 1) 38 _ (0, 0) _ rfl (setRow_same _ (heap_alloc2_new w _ _) _) Try.underlying38 rfl (by kernel_rfl)) rfl ?_
  exact ⟨rfl, hB⟩
theorem refAll_any (l : List Int) (hl : l.length = 17) (w : World) : Calls Try.prog 17 #[prV l] w fun e w' => e = .returned (prV l) ∧ Below w.heap.size w w' := by
  obtain ⟨x0, x1, x2, x3, x4, x5, x6, x7, x8, x9, x10, x11, x12, x13, x14, x15, x16, rfl⟩ := all17 hl
  exact refAll_any_x x0 x1 x2 x3 x4 x5 x6 x7 x8 x9 x10 x11 x12 x13 x14 x15 x16 w

end Go.Proofs.Ytifkelpgpdgenaa

namespace Go.Proofs.Ytifkelpgpdgenaa
open Go.RowKit Go.Shelf

theorem all17' {l : List Int} (h : l.length = 17) : ∃ x0 x1 x2 x3 x4 x5 x6 x7 x8 x9 x10 x11 x12 x13 x14 x15 x16, l = [x0, x1, x2, x3, x4, x5, x6, x7, x8, x9, x10, x11, x12, x13, x14, x15, x16] := by
  match l, h with
  | [x0, x1, x2, x3, x4, x5, x6, x7, x8, x9, x10, x11, x12, x13, x14, x15, x16], _ => exact ⟨_, _, _, _, _, _, _, _, _, _, _, _, _, _, _, _, _, rfl⟩

set_option maxRecDepth 100000 in
set_option maxHeartbeats 4000000 in
theorem refOf_any_x (x0 x1 x2 x3 x4 x5 x6 x7 x8 x9 x10 x11 x12 x13 x14 x15 x16 : Int) (w : World) : Calls Try.prog 36 #[.agg #[.int .i64 x0, .int .i64 x1, .int .i64 x2, .int .i64 x3, .int .i64 x4, .int .i64 x5, .int .i64 x6, .int .i64 x7, .int .i64 x8, .int .i64 x9, .int .i64 x10, .int .i64 x11, .int .i64 x12, .int .i64 x13, .int .i64 x14, .int .i64 x15, .int .i64 x16]] w fun e w' => e = .returned (.agg #[.int .i64 x0, .int .i64 x1, .int .i64 x2, .int .i64 x3, .int .i64 x4, .int .i64 x5, .int .i64 x6, .int .i64 x7, .int .i64 x8, .int .i64 x9, .int .i64 x10, .int .i64 x11, .int .i64 x12, .int .i64 x13, .int .i64 x14, .int .i64 x15, .int .i64 x16]) ∧ Below w.heap.size w w' := by
  have hA : Below w.heap.size w ((w.alloc (.cells #[.int .i64 x0, .int .i64 x1, .int .i64 x2, .int .i64 x3, .int .i64 x4, .int .i64 x5, .int .i64 x6, .int .i64 x7, .int .i64 x8, .int .i64 x9, .int .i64 x10, .int .i64 x11, .int .i64 x12, .int .i64 x13, .int .i64 x14, .int .i64 x15, .int .i64 x16] 38)).alloc (.cells (prC zeroL) 23)) := ((Below.refl _ w).alloc (Nat.le_refl _) _).alloc (by simp) _
  have hB2 := below_setRow hA (Nat.le_succ w.heap.size) #[.int .i64 x0, .int .i64 x1, .int .i64 x2, .int .i64 x3, .int .i64 x4, .int .i64 x5, .int .i64 x6, .int .i64 x7, .int .i64 x8, .int .i64 x9, .int .i64 x10, .int .i64 x11, .int .i64 x12, .int .i64 x13, .int .i64 x14, .int .i64 x15, .int .i64 x16]
  have hB : Hid _ := hB2
  clear hA hB2
  go_enter Try.func36, Try.ntmps36
  go_wp2_with (refine wpList_store_row rfl 23 _ _ rfl (w.heap.size + 1) #[.int .i64 x0, .int .i64 x1, .int .i64 x2, .int .i64 x3, .int .i64 x4, .int .i64 x5, .int .i64 x6, .int .i64 x7, .int .i64 x8, .int .i64 x9, .int .i64 x10, .int .i64 x11, .int .i64 x12, .int .i64 x13, .int .i64 x14, .int .i64 x15, .int .i64 x16] rfl rfl 23 _ (heap_alloc2_new w _ _) (by kernel_rfl) (by rfl) (prC_one [x0, x1, x2, x3, x4, x5, x6, x7, x8, x9, x10, x11, x12, x13, x14, x15, x16]) ?_)
  refine bodyPost_ret (results_cell_row rfl _ _ (w.heap.size + 1) 23 _ (0, 0) _ rfl (setRow_same _ (heap_alloc2_new w _ _) _) Try.underlying23 rfl (by kernel_rfl)) rfl ?_
  exact ⟨rfl, hB⟩
theorem refOf_any (l : List Int) (hl : l.length = 17) (w : World) : Calls Try.prog 36 #[prV l] w fun e w' => e = .returned (prV l) ∧ Below w.heap.size w w' := by
  obtain ⟨x0, x1, x2, x3, x4, x5, x6, x7, x8, x9, x10, x11, x12, x13, x14, x15, x16, rfl⟩ := all17' hl
  exact refOf_any_x x0 x1 x2 x3 x4 x5 x6 x7 x8 x9 x10 x11 x12 x13 x14 x15 x16 w

end Go.Proofs.Ytifkelpgpdgenaa

namespace Go.Proofs.Ytifkelpgpdgenaa
open Go.RowKit Go.Shelf

def mayP (l : List Int) : Bool := (List.range 17).all (fun k => mayS ((k : Int) + 1) (l.getD k 0))
theorem mayP_no {l : List Int} {k : Nat} (hk : k < 17) (h : mayS ((k : Int) + 1) (l.getD k 0) = false) : mayP l = false := by
  cases hm : mayP l with
  | false => rfl
  | true => have := List.all_eq_true.1 hm k (List.mem_range.2 hk); rw [h] at this; cases this
theorem mayP_yes {l : List Int} (h : ∀ k : Nat, k < 17 → mayS ((k : Int) + 1) (l.getD k 0) = true) : mayP l = true :=
  List.all_eq_true.2 fun k hk => h k (List.mem_range.1 hk)

set_option maxRecDepth 100000 in
set_option maxHeartbeats 4000000 in
theorem mayP_any (l : List Int) (hl : l.length = 17) (w : World) : Calls Try.prog 11 #[prV l] w fun e w' => e = .returned (.bool (mayP l)) ∧ Below w.heap.size w w' := by
  have hP := PB.new w (T := 23) hl
  have hB := (Below.refl w.heap.size w).alloc (Nat.le_refl _) (Obj.cells (prC l) 23)
  generalize hw0 : w.alloc (Obj.cells (prC l) 23) = w0 at hP hB
  unfold prV
  go_enter Try.func11, Try.ntmps11
  go_wp2_with fail
  try rw [hw0]
  clear hw0
  go_loopw [3] (fun i wr => ∃ k : Nat, k ≤ 17 ∧ i = .int .i64 ((k : Int) + 1) ∧ Below w0.heap.size w0 wr ∧ Hid (∀ j : Nat, j < k → mayS ((j : Int) + 1) (l.getD j 0) = true)) (fun i _ => 18 - (intOf i).toNat)
  case atStart => exact ⟨0, by omega, rfl, Below.refl _ _, fun j hj => by omega⟩
  case round =>
    obtain ⟨k, hk, rfl, hb, hall⟩ := hrel
    by_cases hlt : k < 17
    · have hP2 := hP.below hb hP.lt
      have hc := hP2.cell hlt
      have hf := field_yes w.heap.size ((k : Int) + 1) (by omega)
      have hk1 : ((k : Int) + 1).toNat - 1 = k := by omega
      rw [hk1] at hf
      have hm := may_any ((k : Int) + 1) (l.getD k 0)
      have hno : Hid _ := mayP_no (l := l) hlt
      have hle : (k : Int) + 1 ≤ 17 := by omega
      obtain ⟨v, hvE⟩ : ∃ v, l.getD k 0 = v := ⟨_, rfl⟩
      rw [hvE] at hc hm hno
      replace hvE : Hid _ := hvE
      unfold seV at hm
      clear hP2 hk1
      cases hv : mayS ((k : Int) + 1) v
      · rw [hv] at hm
        have hno' := hno.out hv
        clear hno hall
        go_wp2_with (first
          | (go_at_call 34; refine (hf _).mono ?_; rintro e w' ⟨rfl, hww⟩; subst w')
          | (go_at_call 33; refine (hm _).mono ?_; rintro e w' ⟨rfl, hb'⟩))
        go_ret
        exact ⟨by first | rfl | (rw [hno']; rfl), hB.trans ((hb.trans (hb'.mono hb.size)).mono hB.size)⟩
      · rw [hv] at hm
        have hyes : Hid (∀ j : Nat, j < k + 1 → mayS ((j : Int) + 1) (l.getD j 0) = true) := fun j hj => by
          by_cases h : j < k
          · exact hall.out j h
          · obtain rfl : j = k := by omega
            rw [hvE.out]; exact hv
        clear hno hall
        go_wp2_with (first
          | (go_at_call 34; refine (hf _).mono ?_; rintro e w' ⟨rfl, hww⟩; subst w')
          | (go_at_call 33; refine (hm _).mono ?_; rintro e w' ⟨rfl, hb'⟩))
        go_roundw
        case rel => exact ⟨k + 1, by omega, by simp, hb.trans (hb'.mono hb.size), hyes⟩
        case measure => simp [intOf]; omega
    · have hgt : ¬ ((k : Int) + 1 ≤ 17) := by omega
      have hk17 : k = 17 := by omega
      rw [hk17] at hall
      have hy := mayP_yes hall.out
      clear hall
      go_wp2_with fail
      go_ret
      exact ⟨by first | rfl | (rw [hy]; rfl), hB.trans (hb.mono hB.size)⟩

end Go.Proofs.Ytifkelpgpdgenaa

namespace Go.Proofs.Ytifkelpgpdgenaa
open Go.RowKit Go.Shelf

theorem zeros : (Obj.cells #[Value.int IntKind.i64 0, Value.int IntKind.i64 0, Value.int IntKind.i64 0, Value.int IntKind.i64 0, Value.int IntKind.i64 0, Value.int IntKind.i64 0, Value.int IntKind.i64 0, Value.int IntKind.i64 0, Value.int IntKind.i64 0, Value.int IntKind.i64 0, Value.int IntKind.i64 0, Value.int IntKind.i64 0, Value.int IntKind.i64 0, Value.int IntKind.i64 0, Value.int IntKind.i64 0, Value.int IntKind.i64 0, Value.int IntKind.i64 0] 23) = .cells (prC zeroL) 23 := rfl
theorem zeros38 : (Obj.cells #[Value.int IntKind.i64 0, Value.int IntKind.i64 0, Value.int IntKind.i64 0, Value.int IntKind.i64 0, Value.int IntKind.i64 0, Value.int IntKind.i64 0, Value.int IntKind.i64 0, Value.int IntKind.i64 0, Value.int IntKind.i64 0, Value.int IntKind.i64 0, Value.int IntKind.i64 0, Value.int IntKind.i64 0, Value.int IntKind.i64 0, Value.int IntKind.i64 0, Value.int IntKind.i64 0, Value.int IntKind.i64 0, Value.int IntKind.i64 0] 38) = .cells (prC zeroL) 38 := rfl

/-- Properties, a setting and room for properties, made one behind the other. -/
structure Three (w w3 : World) (l : List Int) (n v : Int) : Prop where
  below : Below w.heap.size w w3
  size : w3.heap.size = w.heap.size + 3
  old : PB w3 w.heap.size 23 l
  se : w3.heap[w.heap.size + 1]? = some (.cells #[.int .i64 n, .int .i64 v] 37)
  room : PB w3 (w.heap.size + 2) 23 zeroL
theorem three (w : World) {l : List Int} (hl : l.length = 17) (n v : Int) :
    Three w (((w.alloc (.cells (prC l) 23)).alloc (.cells #[.int .i64 n, .int .i64 v] 37)).alloc (.cells (prC zeroL) 23)) l n v := by
  refine ⟨(((Below.refl _ w).alloc (Nat.le_refl _) _).alloc (by simp) _).alloc (by simp; omega) _, by simp, ⟨hl, ?_⟩, ?_, ⟨rfl, ?_⟩⟩
  all_goals (show (((w.heap.push _).push _).push _)[_]? = _; simp only [Array.getElem?_push, Array.size_push]; repeat (first | rw [if_pos trivial] | rw [if_pos (by omega)] | rw [if_neg (by omega)]))
theorem se_cells {w : World} {g : Nat} {n v : Int} (h : w.heap[g]? = some (.cells #[.int .i64 n, .int .i64 v] 37)) : w.cell? ⟨g, 0, none⟩ = some (.int .i64 n) ∧ w.cell? ⟨g, 1, none⟩ = some (.int .i64 v) := by
  constructor <;> (rw [Lib.cell_of_heap h]; rfl)
theorem results_cell_row2 {P : Program} {fn : Func} {p u : Tmp} {ty : TypeId} (h : fn.results = #[.cell p ty, .tmp u]) (tmps : Array Value) (w : World) (g : Nat) (t : TypeId) (cs : Array Value) (fr : Nat × Nat) (d : TypeDesc)
    (hp : tmps.getD p undef = .pointer (some ⟨g, 0, none⟩)) (hg : w.heap[g]? = some (.cells cs t fr))
    (hu : P.underlying ty = some d) (hd : (match d with | .struct _ | .array _ _ => true | _ => false) = true) (hi : (P.info? ty).map (·.size) = some cs.size) :
    (results fn tmps).run P w = .ok (.tuple #[.agg cs, tmps.getD u undef]) w := by
  have hp' : tmps[p]?.getD undef = .pointer (some ⟨g, 0, none⟩) := by simpa using hp
  rw [results_cell_tmp h]
  simp [hp', asAddr, run_loadVar_row w g t ty cs fr d hg hu hd hi, Result.andThen]

set_option maxRecDepth 100000 in
set_option maxHeartbeats 4000000 in
theorem with_no (l : List Int) (hl : l.length = 17) (n v : Int) (hn : mayS n v = false) (w : World) : Calls Try.prog 16 #[prV l, seV n v] w fun e w' => e = .returned (.tuple #[prV zeroL, .int .i64 2]) ∧ Below w.heap.size w w' := by
  have h3 := three w hl n v
  have hm := may_any n v
  rw [hn] at hm
  unfold prV seV at *
  generalize hw3 : (((w.alloc (.cells (prC l) 23)).alloc (.cells #[.int .i64 n, .int .i64 v] 37)).alloc (.cells (prC zeroL) 23)) = w3 at h3
  go_enter Try.func16, Try.ntmps16
  go_wp2_with fail
  try rw [zeros]
  try rw [hw3]
  clear hw3
  refine (hm _).mono ?_
  rintro e w4 ⟨rfl, hb⟩
  have hB := h3.below.trans (hb.mono h3.below.size)
  have hR := h3.room.below hb h3.room.lt
  have hE : Hid _ := And.intro (hR.setRow (l' := zeroL) rfl) (below_setRow hB (Nat.le_add_right w.heap.size 2) (prC zeroL))
  go_wp2_with (refine wpList_store_row rfl 23 _ _ rfl (w.heap.size + 2) (prC zeroL) rfl rfl 23 _ hR.row (info23l rfl) rfl (prC_one _) ?_)
  refine bodyPost_ret (results_cell_row2 rfl _ _ (w.heap.size + 2) 23 _ (0, 0) _ rfl hE.out.1.row Try.underlying23 rfl (info23l rfl)) rfl ?_
  exact ⟨rfl, hE.out.2⟩

theorem mayS_isP {n v : Int} (h : mayS n v = true) : 1 ≤ n ∧ n ≤ 17 := by
  unfold mayS at h
  cases hp : isP n
  · rw [hp] at h; cases h
  · exact (isP_iff n).1 hp

theorem sets_one {w : World} {n v : Int} : SetsAt (w.alloc (.cells #[.int .i64 n, .int .i64 v] 37)) (.slice (some ⟨w.heap.size, 0, none⟩) 1 1) [(n, v)] := by
  refine ⟨⟨_, 1, rfl, .inr ⟨w.heap.size, 0, rfl, by simp, fun i hi => ?_⟩⟩, by simp⟩
  obtain rfl : i = 0 := by simpa using hi
  have h := heap_new w (.cells #[.int .i64 n, .int .i64 v] 37)
  exact se_cells h

set_option maxRecDepth 100000 in
set_option maxHeartbeats 4000000 in
theorem with_yes (l : List Int) (hl : l.length = 17) (n v : Int) (hn : mayS n v = true) (w : World) : Calls Try.prog 16 #[prV l, seV n v] w fun e w' => e = .returned (.tuple #[prV (setP l (n, v)), .int .i64 0]) ∧ Below w.heap.size w w' := by
  have h3 := three w hl n v
  have hm := may_any n v
  have hap := fun W hS => apply_any l hl (.slice (some ⟨W, 0, none⟩) 1 1) [(n, v)] (fun q hq => by obtain rfl := List.mem_singleton.1 hq; exact mayS_isP hn) hS
  rw [hn] at hm
  unfold prV seV at *
  have hap' : Hid _ := hap
  clear hap
  generalize hw3 : (((w.alloc (.cells (prC l) 23)).alloc (.cells #[.int .i64 n, .int .i64 v] 37)).alloc (.cells (prC zeroL) 23)) = w3 at h3
  go_enter Try.func16, Try.ntmps16
  go_wp2_with fail
  try rw [zeros]
  try rw [hw3]
  clear hw3
  refine (hm _).mono ?_
  rintro e w4 ⟨rfl, hb⟩
  have hB := h3.below.trans (hb.mono h3.below.size)
  have hR := h3.room.below hb h3.room.lt
  have hO := h3.old.below hb h3.old.lt
  obtain ⟨c0, c1⟩ := se_cells ((hb.block _ (by have := h3.size; omega)).trans h3.se)
  go_wp2_with (refine wpList_load_row rfl 23 _ rfl w.heap.size rfl 23 _ (0, 0) _ hO.row Try.underlying23 rfl (info23l hl) ?_)
  refine (hap'.out _ _ (by exact sets_one)).mono ?_
  rintro e w5 ⟨rfl, hb5⟩
  have hA4 := (Below.refl w4.heap.size w4).alloc (Nat.le_refl _) (Obj.cells #[.int .i64 n, .int .i64 v] 37)
  have h45 := hA4.trans (hb5.mono hA4.size)
  have hB5 := hB.trans (h45.mono hB.size)
  have hR5 := hR.below h45 hR.lt
  have hl5 : (applyL l [(n, v)]).length = 17 := by rw [applyL_length]; exact hl
  have hE : Hid _ := And.intro (hR5.setRow hl5) (below_setRow hB5 (Nat.le_add_right w.heap.size 2) (prC (applyL l [(n, v)])))
  go_wp2_with (refine wpList_store_row rfl 23 _ _ rfl (w.heap.size + 2) (prC (applyL l [(n, v)])) rfl rfl 23 _ hR5.row (info23l hl5) (by rw [prC_size, prC_size, hl5]; rfl) (prC_one _) ?_)
  refine bodyPost_ret (results_cell_row2 rfl _ _ (w.heap.size + 2) 23 _ (0, 0) _ rfl hE.out.1.row Try.underlying23 rfl (info23l hl5)) rfl ?_
  exact ⟨rfl, hE.out.2⟩
end Go.Proofs.Ytifkelpgpdgenaa
