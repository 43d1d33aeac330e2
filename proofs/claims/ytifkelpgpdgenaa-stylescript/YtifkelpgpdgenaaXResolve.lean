/-
  What is proved here: what Resolve of style answers.
-/
import Derived.Test.YtifkelpgpdgenaaXMakesAny
namespace Go.Proofs.Ytifkelpgpdgenaa
open Go.RowKit Go.Shelf

variable {X : Nat → Prop}

noncomputable def resE (S : Sh) (name : Str) (own : List (Int × Int)) : Int := by
  classical exact if name ≠ e0 ∧ S name = none then 6 else refuseL own

/-- What Resolve answers. -/
def resPost (w : World) (S : Sh) (name : Str) (own : List (Int × Int)) (e : Ending) (w' : World) : Prop :=
  Below w.heap.size w w' ∧ ∃ q, e = .returned (.tuple #[.agg (prC q), .int .i64 (resE S name own)]) ∧ q.length = 17 ∧ (resE S name own ≠ 0 → q = zeroL) ∧ (resE S name own = 0 → ∃ m, Makes S baseL name m ∧ q = applyL m own)
theorem resPost_no {w w' : World} {S : Sh} {name : Str} {own : List (Int × Int)} {e : Int} (hb : Below w.heap.size w w') (he : resE S name own = e) (h0 : e ≠ 0) : resPost w S name own (.returned (.tuple #[.agg (prC zeroL), .int .i64 e])) w' :=
  ⟨hb, zeroL, by rw [he], rfl, fun _ => rfl, fun h => absurd (he ▸ h) h0⟩
theorem resPost_yes {w w' : World} {S : Sh} {name : Str} {own : List (Int × Int)} {m : List Int} (hb : Below w.heap.size w w') (he : resE S name own = 0) (hm : Makes S baseL name m) : resPost w S name own (.returned (.tuple #[.agg (prC (applyL m own)), .int .i64 0])) w' :=
  ⟨hb, _, by rw [he], by rw [applyL_length]; exact hm.length rfl, fun h => absurd he h, fun _ => ⟨m, hm, rfl⟩⟩

theorem room_made (w : World) : Below w.heap.size w (w.alloc (.cells #[Value.int IntKind.i64 0, Value.int IntKind.i64 0, Value.int IntKind.i64 0, Value.int IntKind.i64 0, Value.int IntKind.i64 0, Value.int IntKind.i64 0, Value.int IntKind.i64 0, Value.int IntKind.i64 0, Value.int IntKind.i64 0, Value.int IntKind.i64 0, Value.int IntKind.i64 0, Value.int IntKind.i64 0, Value.int IntKind.i64 0, Value.int IntKind.i64 0, Value.int IntKind.i64 0, Value.int IntKind.i64 0, Value.int IntKind.i64 0] 23)) ∧ PB (w.alloc (.cells #[Value.int IntKind.i64 0, Value.int IntKind.i64 0, Value.int IntKind.i64 0, Value.int IntKind.i64 0, Value.int IntKind.i64 0, Value.int IntKind.i64 0, Value.int IntKind.i64 0, Value.int IntKind.i64 0, Value.int IntKind.i64 0, Value.int IntKind.i64 0, Value.int IntKind.i64 0, Value.int IntKind.i64 0, Value.int IntKind.i64 0, Value.int IntKind.i64 0, Value.int IntKind.i64 0, Value.int IntKind.i64 0, Value.int IntKind.i64 0] 23)) w.heap.size 23 zeroL := ⟨(Below.refl _ w).alloc (Nat.le_refl _) _, ⟨rfl, heap_new w _⟩⟩

set_option maxRecDepth 100000 in
set_option maxHeartbeats 4000000 in
theorem resolve_missing (t b n : Nat) (S : Sh) (name : Str) (hne : name ≠ e0) (hx : S name = none) (hnl : name.size ≤ maxLen) (v : Value) (own : List (Int × Int)) (w : World) (h : SheetAt X w t b n S) :
    Calls Try.prog 28 #[.pointer (some ⟨t, 0, none⟩), .string name, v] w (resPost w S name own) := by
  have he : resE S name own = 6 := by unfold resE; rw [if_pos ⟨hne, hx⟩]
  obtain ⟨hB, hR⟩ := room_made w
  generalize hw0 : w.alloc (.cells #[Value.int IntKind.i64 0, Value.int IntKind.i64 0, Value.int IntKind.i64 0, Value.int IntKind.i64 0, Value.int IntKind.i64 0, Value.int IntKind.i64 0, Value.int IntKind.i64 0, Value.int IntKind.i64 0, Value.int IntKind.i64 0, Value.int IntKind.i64 0, Value.int IntKind.i64 0, Value.int IntKind.i64 0, Value.int IntKind.i64 0, Value.int IntKind.i64 0, Value.int IntKind.i64 0, Value.int IntKind.i64 0, Value.int IntKind.i64 0] 23) = w0 at hB hR
  have h0 := h.below hB
  have hmade := made_yes t w0 h0.cells.1
  have hE := isEmpty_no (size_pos hne)
  have hh := has_any t b n S name hnl w0 h0
  rw [hx] at hh
  go_enter Try.func28, Try.ntmps28
  go_wp2_with fail
  try rw [hw0]
  refine hmade.mono ?_
  rintro e w' ⟨rfl, hww⟩
  subst w'
  go_wp2_with fail
  refine hh.mono ?_
  rintro e w1 ⟨rfl, b1⟩
  have hR1 := hR.below b1 hR.lt
  have B1 := hB.trans (b1.mono hB.size)
  have hR2 := hR1.setRow (l' := zeroL) rfl
  have hfin := resPost_no (below_setRow B1 (Nat.le_refl w.heap.size) (prC zeroL)) he (by decide)
  replace hfin : Hid _ := hfin
  rw [show (none : Option Sty).isSome = false from rfl]
  go_wp2_with (refine wpList_store_row rfl 23 _ _ rfl w.heap.size (prC zeroL) rfl rfl 23 _ hR1.row (info23l rfl) rfl (prC_one _) ?_)
  refine bodyPost_ret (results_cell_row2 rfl _ _ w.heap.size 23 _ (0, 0) _ rfl hR2.row Try.underlying23 rfl (info23l rfl)) rfl ?_
  exact hfin.out

set_option maxRecDepth 100000 in
set_option maxHeartbeats 4000000 in
theorem resolve_top (t b n : Nat) (S : Sh) (hWF : WF S) (name : Str) (hpe : name = e0) (_hnl : name.size ≤ maxLen) (v : Value) (own : List (Int × Int)) (w : World) (h : SheetAt X w t b n S) (hL : SetsAt w v own) :
    Calls Try.prog 28 #[.pointer (some ⟨t, 0, none⟩), .string name, v] w (resPost w S name own) := by
  have he : resE S name own = refuseL own := by unfold resE; rw [if_neg (by rintro ⟨h, _⟩; exact h hpe)]
  have hsome : name = e0 ∨ (S name).isSome = true := .inl hpe
  obtain ⟨hB, hR⟩ := room_made w
  generalize hw0 : w.alloc (.cells #[Value.int IntKind.i64 0, Value.int IntKind.i64 0, Value.int IntKind.i64 0, Value.int IntKind.i64 0, Value.int IntKind.i64 0, Value.int IntKind.i64 0, Value.int IntKind.i64 0, Value.int IntKind.i64 0, Value.int IntKind.i64 0, Value.int IntKind.i64 0, Value.int IntKind.i64 0, Value.int IntKind.i64 0, Value.int IntKind.i64 0, Value.int IntKind.i64 0, Value.int IntKind.i64 0, Value.int IntKind.i64 0, Value.int IntKind.i64 0] 23) = w0 at hB hR
  have h0 := h.below hB
  have hL0 := hL.below hB
  have hmade := made_yes t w0 h0.cells.1
  have hE : (ByteArray.toList name).isEmpty = true := by rw [hpe, toList_data]; rfl
  obtain ⟨a, cap, rfl, _⟩ := hL.ex
  replace he : Hid _ := he
  clear hpe
  replace hsome : Hid _ := hsome
  go_enter Try.func28, Try.ntmps28
  go_wp2_with fail
  try rw [hw0]
  clear hw0
  refine hmade.mono ?_
  rintro e w' ⟨rfl, hww⟩
  subst w'
  go_wp2_with fail
  obtain ⟨w1, hw1⟩ : ∃ w1, w0 = w1 := ⟨_, rfl⟩
  have b1 : Below w0.heap.size w0 w1 := by rw [← hw1]; exact Below.refl _ _
  rw [hw1]
  clear hw1
  have h1 := h0.below b1
  have hL1 := hL0.below b1
  have hR1 := hR.below b1 hR.lt
  have B1 := hB.trans (b1.mono hB.size)
  clear hR h0 hL0 b1
  refine (refuse_any _ own _ hL1).mono ?_
  rintro e w2 ⟨rfl, b2⟩
  have h2 := h1.below b2
  have hL2 := hL1.below b2
  have hR2 := hR1.below b2 hR1.lt
  have B2 := B1.trans (b2.mono B1.size)
  clear hR1 h1 hL1 b2
  by_cases hr : refuseL own ≠ 0
  · have hr' : (refuseL own == 0) = false := by simpa using hr
    have hr'' : (refuseL own != 0) = true := by simpa using hr
    have hfin := resPost_no (below_setRow B2 (Nat.le_refl w.heap.size) (prC zeroL)) he.out hr
    have hR3 := hR2.setRow (l' := zeroL) rfl
    replace hfin : Hid _ := hfin
    generalize refuseL own = rr at *
    go_wp2_with (refine wpList_store_row rfl 23 _ _ rfl w.heap.size (prC zeroL) rfl rfl 23 _ hR2.row (info23l rfl) rfl (prC_one _) ?_)
    refine bodyPost_ret (results_cell_row2 rfl _ _ w.heap.size 23 _ (0, 0) _ rfl hR3.row Try.underlying23 rfl (info23l rfl)) rfl ?_
    exact hfin.out
  · have hr0 : refuseL own = 0 := Classical.not_not.1 hr
    rw [hr0] at he
    rw [hr0]
    have hlp := refuseL_allP hr0
    replace hlp : Hid _ := hlp
    clear hr hr0
    go_wp2_with fail
    refine (base_any _).mono ?_
    rintro e w3 ⟨rfl, b3⟩
    have h3 := h2.below b3
    have hL3 := hL2.below b3
    have hR3 := hR2.below b3 hR2.lt
    have B3 := B2.trans (b3.mono B2.size)
    clear hR2 h2 hL2 b3
    unfold prV
    go_wp2_with fail
    refine (makes_any t b n S hWF baseL rfl name hsome.out w3 h3).mono ?_
    rintro e w4 ⟨m, hm, rfl, b4⟩
    have hL4 := hL3.below b4
    have hR4 := hR3.below b4 hR3.lt
    have B4 := B3.trans (b4.mono B3.size)
    have hml := hm.length rfl
    replace hm : Hid _ := hm
    clear hR3 h3 hL3 b4
    go_wp2_with fail
    refine (apply_any m hml _ own hlp.out _ hL4).mono ?_
    rintro e w5 ⟨rfl, b5⟩
    have hR5 := hR4.below b5 hR4.lt
    have B5 := B4.trans (b5.mono B4.size)
    have hfl : (applyL m own).length = 17 := by rw [applyL_length]; exact hml
    have hfin := resPost_yes (below_setRow B5 (Nat.le_refl w.heap.size) (prC (applyL m own))) he.out hm.out
    replace hfin : Hid _ := hfin
    have hR6 := hR5.setRow hfl
    clear hR4 hL4 b5
    unfold prV
    go_wp2_with (refine wpList_store_row rfl 23 _ _ rfl w.heap.size (prC (applyL m own)) rfl rfl 23 _ hR5.row (info23l hfl) (by rw [prC_size, prC_size, hfl]; rfl) (prC_one _) ?_)
    refine bodyPost_ret (results_cell_row2 rfl _ _ w.heap.size 23 _ (0, 0) _ rfl hR6.row Try.underlying23 rfl (info23l hfl)) rfl ?_
    exact hfin.out

set_option maxRecDepth 100000 in
set_option maxHeartbeats 4000000 in
theorem resolve_style (t b n : Nat) (S : Sh) (hWF : WF S) (name : Str) (hpe : name ≠ e0) (hx : (S name).isSome = true) (hnl : name.size ≤ maxLen) (v : Value) (own : List (Int × Int)) (w : World) (h : SheetAt X w t b n S) (hL : SetsAt w v own) :
    Calls Try.prog 28 #[.pointer (some ⟨t, 0, none⟩), .string name, v] w (resPost w S name own) := by
  have he : resE S name own = refuseL own := by unfold resE; rw [if_neg (by rintro ⟨_, h⟩; rw [h] at hx; cases hx)]
  have hsome : name = e0 ∨ (S name).isSome = true := .inr hx
  obtain ⟨hB, hR⟩ := room_made w
  generalize hw0 : w.alloc (.cells #[Value.int IntKind.i64 0, Value.int IntKind.i64 0, Value.int IntKind.i64 0, Value.int IntKind.i64 0, Value.int IntKind.i64 0, Value.int IntKind.i64 0, Value.int IntKind.i64 0, Value.int IntKind.i64 0, Value.int IntKind.i64 0, Value.int IntKind.i64 0, Value.int IntKind.i64 0, Value.int IntKind.i64 0, Value.int IntKind.i64 0, Value.int IntKind.i64 0, Value.int IntKind.i64 0, Value.int IntKind.i64 0, Value.int IntKind.i64 0] 23) = w0 at hB hR
  have h0 := h.below hB
  have hL0 := hL.below hB
  have hmade := made_yes t w0 h0.cells.1
  have hE : (ByteArray.toList name).isEmpty = false := isEmpty_no (size_pos hpe)
  obtain ⟨a, cap, rfl, _⟩ := hL.ex
  replace he : Hid _ := he
  clear hpe
  replace hsome : Hid _ := hsome
  go_enter Try.func28, Try.ntmps28
  go_wp2_with fail
  try rw [hw0]
  clear hw0
  refine hmade.mono ?_
  rintro e w' ⟨rfl, hww⟩
  subst w'
  go_wp2_with fail
  refine (has_any t b n S name hnl w0 h0).mono ?_
  rintro e w1 ⟨rfl, b1⟩
  rw [hx]
  go_wp2_with fail
  have h1 := h0.below b1
  have hL1 := hL0.below b1
  have hR1 := hR.below b1 hR.lt
  have B1 := hB.trans (b1.mono hB.size)
  clear hR h0 hL0 b1
  refine (refuse_any _ own _ hL1).mono ?_
  rintro e w2 ⟨rfl, b2⟩
  have h2 := h1.below b2
  have hL2 := hL1.below b2
  have hR2 := hR1.below b2 hR1.lt
  have B2 := B1.trans (b2.mono B1.size)
  clear hR1 h1 hL1 b2
  by_cases hr : refuseL own ≠ 0
  · have hr' : (refuseL own == 0) = false := by simpa using hr
    have hr'' : (refuseL own != 0) = true := by simpa using hr
    have hfin := resPost_no (below_setRow B2 (Nat.le_refl w.heap.size) (prC zeroL)) he.out hr
    have hR3 := hR2.setRow (l' := zeroL) rfl
    replace hfin : Hid _ := hfin
    generalize refuseL own = rr at *
    go_wp2_with (refine wpList_store_row rfl 23 _ _ rfl w.heap.size (prC zeroL) rfl rfl 23 _ hR2.row (info23l rfl) rfl (prC_one _) ?_)
    refine bodyPost_ret (results_cell_row2 rfl _ _ w.heap.size 23 _ (0, 0) _ rfl hR3.row Try.underlying23 rfl (info23l rfl)) rfl ?_
    exact hfin.out
  · have hr0 : refuseL own = 0 := Classical.not_not.1 hr
    rw [hr0] at he
    rw [hr0]
    have hlp := refuseL_allP hr0
    replace hlp : Hid _ := hlp
    clear hr hr0
    go_wp2_with fail
    refine (base_any _).mono ?_
    rintro e w3 ⟨rfl, b3⟩
    have h3 := h2.below b3
    have hL3 := hL2.below b3
    have hR3 := hR2.below b3 hR2.lt
    have B3 := B2.trans (b3.mono B2.size)
    clear hR2 h2 hL2 b3
    unfold prV
    go_wp2_with fail
    refine (makes_any t b n S hWF baseL rfl name hsome.out w3 h3).mono ?_
    rintro e w4 ⟨m, hm, rfl, b4⟩
    have hL4 := hL3.below b4
    have hR4 := hR3.below b4 hR3.lt
    have B4 := B3.trans (b4.mono B3.size)
    have hml := hm.length rfl
    replace hm : Hid _ := hm
    clear hR3 h3 hL3 b4
    go_wp2_with fail
    refine (apply_any m hml _ own hlp.out _ hL4).mono ?_
    rintro e w5 ⟨rfl, b5⟩
    have hR5 := hR4.below b5 hR4.lt
    have B5 := B4.trans (b5.mono B4.size)
    have hfl : (applyL m own).length = 17 := by rw [applyL_length]; exact hml
    have hfin := resPost_yes (below_setRow B5 (Nat.le_refl w.heap.size) (prC (applyL m own))) he.out hm.out
    replace hfin : Hid _ := hfin
    have hR6 := hR5.setRow hfl
    clear hR4 hL4 b5
    unfold prV
    go_wp2_with (refine wpList_store_row rfl 23 _ _ rfl w.heap.size (prC (applyL m own)) rfl rfl 23 _ hR5.row (info23l hfl) (by rw [prC_size, prC_size, hfl]; rfl) (prC_one _) ?_)
    refine bodyPost_ret (results_cell_row2 rfl _ _ w.heap.size 23 _ (0, 0) _ rfl hR6.row Try.underlying23 rfl (info23l hfl)) rfl ?_
    exact hfin.out

theorem resolve_any (t b n : Nat) (S : Sh) (hWF : WF S) (name : Str) (hnl : name.size ≤ maxLen) (v : Value) (own : List (Int × Int)) (w : World) (h : SheetAt X w t b n S) (hL : SetsAt w v own) :
    Calls Try.prog 28 #[.pointer (some ⟨t, 0, none⟩), .string name, v] w (resPost w S name own) := by
  by_cases hpe : name = e0
  · exact resolve_top t b n S hWF name hpe hnl v own w h hL
  · cases hx : S name with
    | none => exact resolve_missing t b n S name hpe hx hnl v own w h
    | some x => exact resolve_style t b n S hWF name hpe (by rw [hx]; rfl) hnl v own w h hL
end Go.Proofs.Ytifkelpgpdgenaa
