/-
  What is proved here: which paragraphs may be, as split and Check of metric tell it.
-/
import Derived.Test.YtkhnfmdhdfpdhaaF3
namespace Go.Proofs.Ytkhnfmdhdfpdhaa
open Go.RowKit Go.Shelf

theorem wpList_load_want {P : Program} {ops : Array Oper} {rest : List Oper} {o : Oper} {a : Act} {w : World} {Q : Exit → Act → World → Prop} (ty : TypeId) (x : Operand) (ho : o.op = .load ty x) (hw : Region.wanted o (yielded ops a.tmps) = true)
    (g : Nat) (hx : a.eval x = .pointer (some ⟨g, 0, none⟩)) (t : TypeId) (cs : Array Value) (fr : Nat × Nat) (d : TypeDesc) (hg : w.heap[g]? = some (.cells cs t fr))
    (hu : P.underlying ty = some d) (hd : (match d with | .struct _ | .array _ _ => true | _ => false) = true) (hi : (P.info? ty).map (·.size) = some cs.size)
    (h : wpList P ops Q rest (a.put o.dst (.agg cs)) w) : wpList P ops Q (o :: rest) a w :=
  BigFrame.wpList_want hw fun _ hK => wp_load_row ty x ho g hx t cs fr d hg hu hd hi (hK _ _ h)

/-- May the rest of a paragraph be? -/
def restB (a : Pa) : Bool := spB a.sp a.t.size && keepB (prB a.p) && standB a.lb 0 16 && markB a.t a.ms
/-- What Check answers. -/
def chkI (a : Pa) : Int := if wrongI a.t = 0 then (if fieldB a.t = true then 4 else if restB a = true then 0 else 2) else wrongI a.t
theorem chk_cases (a : Pa) : (chkI a = wrongI a.t ∧ wrongI a.t ≠ 0) ∨ (chkI a = 4 ∧ wrongI a.t = 0 ∧ fieldB a.t = true) ∨ (chkI a = 2 ∧ wrongI a.t = 0 ∧ fieldB a.t = false ∧ restB a = false) ∨ (chkI a = 0 ∧ wrongI a.t = 0 ∧ fieldB a.t = false ∧ restB a = true) := by
  unfold chkI
  by_cases h : wrongI a.t = 0
  · rw [if_pos h]
    cases hf : fieldB a.t
    · cases hr : restB a
      · exact .inr (.inr (.inl ⟨by simp, h, rfl, rfl⟩))
      · exact .inr (.inr (.inr ⟨by simp, h, rfl, rfl⟩))
    · exact .inr (.inl ⟨by simp, h, rfl⟩)
  · rw [if_neg h]; exact .inl ⟨rfl, h⟩
theorem rest_cases (a : Pa) (h : restB a = false) : spB a.sp a.t.size = false ∨ (spB a.sp a.t.size = true ∧ keepB (prB a.p) = false) ∨ (spB a.sp a.t.size = true ∧ keepB (prB a.p) = true ∧ standB a.lb 0 16 = false) ∨ (spB a.sp a.t.size = true ∧ keepB (prB a.p) = true ∧ standB a.lb 0 16 = true ∧ markB a.t a.ms = false) := by
  unfold restB at h
  revert h
  cases spB a.sp a.t.size <;> cases keepB (prB a.p) <;> cases standB a.lb 0 16 <;> cases markB a.t a.ms <;> simp
theorem rest_yes (a : Pa) (h : restB a = true) : spB a.sp a.t.size = true ∧ keepB (prB a.p) = true ∧ standB a.lb 0 16 = true ∧ markB a.t a.ms = true := by
  unfold restB at h
  revert h
  cases spB a.sp a.t.size <;> cases keepB (prB a.p) <;> cases standB a.lb 0 16 <;> cases markB a.t a.ms <;> simp

/-- What split answers. -/
def SplitEnd (a : Pa) (w : World) (e : Ending) (w' : World) : Prop :=
  (∃ v, e = .returned (.tuple #[v, .int .i64 (chkI a)]) ∧ ((chkI a ≠ 0 ∧ v = .slice none 0 0) ∨ (chkI a = 0 ∧ w'.ownsRow w.heap.size 120 3 v (num a.t) (rowC a.t (num a.t))))) ∧ Below w.heap.size w w'

set_option maxRecDepth 100000 in
set_option maxHeartbeats 4000000 in
theorem msplit_any (a : Pa) (w : World) (hA : PaAt w a) : Calls Try.prog 70 #[paV a] w (SplitEnd a w) := by
  have hB := (Below.refl w.heap.size w).alloc (Nat.le_refl _) (Obj.cells (paC a) 39)
  have hP := PB.new w a
  have hA1 := hA.below hB (Nat.le_refl _)
  have hsz1 : Hid ((w.alloc (.cells (paC a) 39)).heap.size = w.heap.size + 1) := World.size_alloc _ _
  unfold paV
  rcases chk_cases a with ⟨e1, e2⟩ | ⟨e1, e2, e3⟩ | ⟨e1, e2, e3, e4⟩ | ⟨e1, e2, e3, e4⟩
  · have c0 := hP.c0
    have hE : Hid (∀ W, Below w.heap.size w W → SplitEnd a w (.returned (.tuple #[.slice none 0 0, .int .i64 (wrongI a.t)])) W) := fun W hW => ⟨⟨_, by rw [e1], .inl ⟨by rw [e1]; exact e2, rfl⟩⟩, hW⟩
    have hs := split_no a.t e2
    generalize wrongI a.t = n at *
    generalize hw1 : w.alloc (.cells (paC a) 39) = w1 at *
    have e2' : (n == 0) = false := by simpa using e2
    clear e1 hP hA1 hA
    go_enter Try.func70, Try.ntmps70
    go_wp2_with (go_at_call 84; refine (hs _).mono ?_; rintro e w' ⟨rfl, hww⟩; subst w')
    go_ret2
    exact hE.out _ hB
  · have c0 := hP.c0
    have hE : Hid (∀ W, Below w.heap.size w W → SplitEnd a w (.returned (.tuple #[.slice none 0 0, .int .i64 4])) W) := fun W hW => ⟨⟨_, by rw [e1], .inl ⟨by rw [e1]; decide, rfl⟩⟩, hW⟩
    have hs := split_ok a.t e2
    have hix := indexByte_any a.t
    have hfi := field_index a.t
    rw [e3] at hfi
    have ht4 := ok_size e2
    have hix0 : 0 ≤ Lib.indexByte a.t.data.toList 3 := of_decide_eq_true hfi
    clear hfi e1 e2 e3 ht4
    generalize Lib.indexByte a.t.data.toList 3 = ix at *
    generalize hw1 : w.alloc (.cells (paC a) 39) = w1 at *
    go_enter Try.func70, Try.ntmps70
    go_wp2_with fail
    refine (hs _).mono ?_
    rintro e w2 ⟨v, rfl, hown, hb2⟩
    have hP2 := hP.below hb2 hP.lt
    have hA2 := hA1.below hb2 (Nat.le_refl _)
    have hB2 := hB.trans (hb2.mono hB.size)
    have c0 := hP2.c0
    have c1 := hP2.c1
    go_wp2_with (go_at_call 85; refine (hix _).mono ?_; rintro e w' ⟨rfl, hww⟩; subst w')
    go_ret2
    exact hE.out _ hB2
  · have c0 := hP.c0
    have hE : Hid (∀ W, Below w.heap.size w W → SplitEnd a w (.returned (.tuple #[.slice none 0 0, .int .i64 2])) W) := fun W hW => ⟨⟨_, by rw [e1], .inl ⟨by rw [e1]; decide, rfl⟩⟩, hW⟩
    have hs := split_ok a.t e2
    have hix := indexByte_any a.t
    have hfi := field_index a.t
    rw [e3] at hfi
    have ht4 := ok_size e2
    have hix0 : ¬ 0 ≤ Lib.indexByte a.t.data.toList 3 := of_decide_eq_false hfi
    clear hfi e1 e2 e3
    generalize Lib.indexByte a.t.data.toList 3 = ix at *
    generalize hw1 : w.alloc (.cells (paC a) 39) = w1 at *
    rcases rest_cases a e4 with f1 | ⟨f1, f2⟩ | ⟨f1, f2, f3⟩ | ⟨f1, f2, f3, f4⟩
    · go_enter Try.func70, Try.ntmps70
      go_wp2_with fail
      refine (hs _).mono ?_
      rintro e w2 ⟨v, rfl, hown, hb2⟩
      have hP2 := hP.below hb2 hP.lt
      have hA2 := hA1.below hb2 (Nat.le_refl _)
      have hB2 := hB.trans (hb2.mono hB.size)
      have c0 := hP2.c0
      have c1 := hP2.c1
      go_wp2_with (go_at_call 85; refine (hix _).mono ?_; rintro e w' ⟨rfl, hww⟩; subst w')
      have hq2 := maySpan_any a.sv a.sp a.t.size ht4 hA2.few.1 w2 hA2.sp
      rw [f1] at hq2
      refine hq2.mono ?_
      rintro e w3 ⟨rfl, hb3⟩
      have hP3 := hP2.below hb3 hP2.lt
      have hA3 := hA2.below hb3 (Nat.le_refl _)
      have hB3 := hB2.trans (hb3.mono hB2.size)
      have c1_3 := hP3.c19
      go_wp2_with fail
      go_ret2
      exact hE.out _ hB3
    · go_enter Try.func70, Try.ntmps70
      go_wp2_with fail
      refine (hs _).mono ?_
      rintro e w2 ⟨v, rfl, hown, hb2⟩
      have hP2 := hP.below hb2 hP.lt
      have hA2 := hA1.below hb2 (Nat.le_refl _)
      have hB2 := hB.trans (hb2.mono hB.size)
      have c0 := hP2.c0
      have c1 := hP2.c1
      go_wp2_with (go_at_call 85; refine (hix _).mono ?_; rintro e w' ⟨rfl, hww⟩; subst w')
      have hq2 := maySpan_any a.sv a.sp a.t.size ht4 hA2.few.1 w2 hA2.sp
      rw [f1] at hq2
      refine hq2.mono ?_
      rintro e w3 ⟨rfl, hb3⟩
      have hP3 := hP2.below hb3 hP2.lt
      have hA3 := hA2.below hb3 (Nat.le_refl _)
      have hB3 := hB2.trans (hb3.mono hB2.size)
      have c1_3 := hP3.c19
      go_wp2_with (refine wpList_load_part 37 _ rfl (by rfl) w.heap.size 2 rfl (prL a.p) _ hP3.pr Try.underlying37 rfl (info31 a.p) ?_)
      refine (properties_any a.p w3).mono ?_
      rintro e w4 ⟨vb, rfl, hbd, hb4⟩
      have hP4 := hP3.below hb4 hP3.lt
      have hA4 := hA3.below hb4 (Nat.le_refl _)
      have hB4 := hB3.trans (hb4.mono hB3.size)
      have c1_4 := hP4.c19
      have hq4 := keep_any vb (prB a.p) (by show 17 ≤ 100; omega) w4 hbd
      rw [f2] at hq4
      go_wp2_with fail
      refine hq4.mono ?_
      rintro e w5 ⟨rfl, hb5⟩
      have hP5 := hP4.below hb5 hP4.lt
      have hA5 := hA4.below hb5 (Nat.le_refl _)
      have hB5 := hB4.trans (hb5.mono hB4.size)
      have c1_5 := hP5.c19
      go_wp2_with fail
      go_ret2
      exact hE.out _ hB5
    · go_enter Try.func70, Try.ntmps70
      go_wp2_with fail
      refine (hs _).mono ?_
      rintro e w2 ⟨v, rfl, hown, hb2⟩
      have hP2 := hP.below hb2 hP.lt
      have hA2 := hA1.below hb2 (Nat.le_refl _)
      have hB2 := hB.trans (hb2.mono hB.size)
      have c0 := hP2.c0
      have c1 := hP2.c1
      go_wp2_with (go_at_call 85; refine (hix _).mono ?_; rintro e w' ⟨rfl, hww⟩; subst w')
      have hq2 := maySpan_any a.sv a.sp a.t.size ht4 hA2.few.1 w2 hA2.sp
      rw [f1] at hq2
      refine hq2.mono ?_
      rintro e w3 ⟨rfl, hb3⟩
      have hP3 := hP2.below hb3 hP2.lt
      have hA3 := hA2.below hb3 (Nat.le_refl _)
      have hB3 := hB2.trans (hb3.mono hB2.size)
      have c1_3 := hP3.c19
      go_wp2_with (refine wpList_load_part 37 _ rfl (by rfl) w.heap.size 2 rfl (prL a.p) _ hP3.pr Try.underlying37 rfl (info31 a.p) ?_)
      refine (properties_any a.p w3).mono ?_
      rintro e w4 ⟨vb, rfl, hbd, hb4⟩
      have hP4 := hP3.below hb4 hP3.lt
      have hA4 := hA3.below hb4 (Nat.le_refl _)
      have hB4 := hB3.trans (hb4.mono hB3.size)
      have c1_4 := hP4.c19
      have hq4 := keep_any vb (prB a.p) (by show 17 ≤ 100; omega) w4 hbd
      rw [f2] at hq4
      go_wp2_with fail
      refine hq4.mono ?_
      rintro e w5 ⟨rfl, hb5⟩
      have hP5 := hP4.below hb5 hP4.lt
      have hA5 := hA4.below hb5 (Nat.le_refl _)
      have hB5 := hB4.trans (hb5.mono hB4.size)
      have c1_5 := hP5.c19
      have hq5 := mayStand_any a.lb 0 16 (by omega) w5
      rw [f3] at hq5
      go_wp2_with fail
      refine hq5.mono ?_
      rintro e w6 ⟨rfl, hww⟩
      subst w6
      go_wp2_with fail
      go_ret2
      exact hE.out _ hB5
    · go_enter Try.func70, Try.ntmps70
      go_wp2_with fail
      refine (hs _).mono ?_
      rintro e w2 ⟨v, rfl, hown, hb2⟩
      have hP2 := hP.below hb2 hP.lt
      have hA2 := hA1.below hb2 (Nat.le_refl _)
      have hB2 := hB.trans (hb2.mono hB.size)
      have c0 := hP2.c0
      have c1 := hP2.c1
      go_wp2_with (go_at_call 85; refine (hix _).mono ?_; rintro e w' ⟨rfl, hww⟩; subst w')
      have hq2 := maySpan_any a.sv a.sp a.t.size ht4 hA2.few.1 w2 hA2.sp
      rw [f1] at hq2
      refine hq2.mono ?_
      rintro e w3 ⟨rfl, hb3⟩
      have hP3 := hP2.below hb3 hP2.lt
      have hA3 := hA2.below hb3 (Nat.le_refl _)
      have hB3 := hB2.trans (hb3.mono hB2.size)
      have c1_3 := hP3.c19
      go_wp2_with (refine wpList_load_part 37 _ rfl (by rfl) w.heap.size 2 rfl (prL a.p) _ hP3.pr Try.underlying37 rfl (info31 a.p) ?_)
      refine (properties_any a.p w3).mono ?_
      rintro e w4 ⟨vb, rfl, hbd, hb4⟩
      have hP4 := hP3.below hb4 hP3.lt
      have hA4 := hA3.below hb4 (Nat.le_refl _)
      have hB4 := hB3.trans (hb4.mono hB3.size)
      have c1_4 := hP4.c19
      have hq4 := keep_any vb (prB a.p) (by show 17 ≤ 100; omega) w4 hbd
      rw [f2] at hq4
      go_wp2_with fail
      refine hq4.mono ?_
      rintro e w5 ⟨rfl, hb5⟩
      have hP5 := hP4.below hb5 hP4.lt
      have hA5 := hA4.below hb5 (Nat.le_refl _)
      have hB5 := hB4.trans (hb5.mono hB4.size)
      have c1_5 := hP5.c19
      have hq5 := mayStand_any a.lb 0 16 (by omega) w5
      rw [f3] at hq5
      go_wp2_with fail
      refine hq5.mono ?_
      rintro e w6 ⟨rfl, hww⟩
      subst w6
      have hq6 := mayMark_any a ht4 w5 hA5
      rw [f4] at hq6
      go_wp2_with (refine wpList_load_want 39 _ rfl (by rfl) w.heap.size rfl 39 _ (0, 0) _ hP5.row Try.underlying39 rfl (info34 a) ?_)
      refine hq6.mono ?_
      rintro e w6 ⟨rfl, hb6⟩
      have hP6 := hP5.below hb6 hP5.lt
      have hA6 := hA5.below hb6 (Nat.le_refl _)
      have hB6 := hB5.trans (hb6.mono hB5.size)
      have c1_6 := hP6.c19
      go_wp2_with fail
      go_ret2
      exact hE.out _ hB6
  · have c0 := hP.c0
    have hs := split_ok a.t e2
    have hix := indexByte_any a.t
    have hfi := field_index a.t
    rw [e3] at hfi
    have ht4 := ok_size e2
    have hix0 : ¬ 0 ≤ Lib.indexByte a.t.data.toList 3 := of_decide_eq_false hfi
    have hE : Hid (∀ W v, W.ownsRow w.heap.size 120 3 v (num a.t) (rowC a.t (num a.t)) → Below w.heap.size w W → SplitEnd a w (.returned (.tuple #[v, .int .i64 0])) W) := fun W v hv hW => ⟨⟨_, by rw [e1], .inr ⟨e1, hv⟩⟩, hW⟩
    clear hfi e1 e2 e3
    generalize Lib.indexByte a.t.data.toList 3 = ix at *
    generalize hw1 : w.alloc (.cells (paC a) 39) = w1 at *
    obtain ⟨f1, f2, f3, f4⟩ := rest_yes a e4
    go_enter Try.func70, Try.ntmps70
    go_wp2_with fail
    refine (hs _).mono ?_
    rintro e w2 ⟨v, rfl, hown, hb2⟩
    have hP2 := hP.below hb2 hP.lt
    have hA2 := hA1.below hb2 (Nat.le_refl _)
    have hB2 := hB.trans (hb2.mono hB.size)
    have c0 := hP2.c0
    have c1 := hP2.c1
    go_wp2_with (go_at_call 85; refine (hix _).mono ?_; rintro e w' ⟨rfl, hww⟩; subst w')
    have hq2 := maySpan_any a.sv a.sp a.t.size ht4 hA2.few.1 w2 hA2.sp
    rw [f1] at hq2
    refine hq2.mono ?_
    rintro e w3 ⟨rfl, hb3⟩
    have hP3 := hP2.below hb3 hP2.lt
    have hA3 := hA2.below hb3 (Nat.le_refl _)
    have hB3 := hB2.trans (hb3.mono hB2.size)
    have c1_3 := hP3.c19
    go_wp2_with (refine wpList_load_part 37 _ rfl (by rfl) w.heap.size 2 rfl (prL a.p) _ hP3.pr Try.underlying37 rfl (info31 a.p) ?_)
    refine (properties_any a.p w3).mono ?_
    rintro e w4 ⟨vb, rfl, hbd, hb4⟩
    have hP4 := hP3.below hb4 hP3.lt
    have hA4 := hA3.below hb4 (Nat.le_refl _)
    have hB4 := hB3.trans (hb4.mono hB3.size)
    have c1_4 := hP4.c19
    have hq4 := keep_any vb (prB a.p) (by show 17 ≤ 100; omega) w4 hbd
    rw [f2] at hq4
    go_wp2_with fail
    refine hq4.mono ?_
    rintro e w5 ⟨rfl, hb5⟩
    have hP5 := hP4.below hb5 hP4.lt
    have hA5 := hA4.below hb5 (Nat.le_refl _)
    have hB5 := hB4.trans (hb5.mono hB4.size)
    have c1_5 := hP5.c19
    have hq5 := mayStand_any a.lb 0 16 (by omega) w5
    rw [f3] at hq5
    go_wp2_with fail
    refine hq5.mono ?_
    rintro e w6 ⟨rfl, hww⟩
    subst w6
    have hq6 := mayMark_any a ht4 w5 hA5
    rw [f4] at hq6
    go_wp2_with (refine wpList_load_want 39 _ rfl (by rfl) w.heap.size rfl 39 _ (0, 0) _ hP5.row Try.underlying39 rfl (info34 a) ?_)
    refine hq6.mono ?_
    rintro e w6 ⟨rfl, hb6⟩
    have hP6 := hP5.below hb6 hP5.lt
    have hA6 := hA5.below hb6 (Nat.le_refl _)
    have hB6 := hB5.trans (hb6.mono hB5.size)
    have c1_6 := hP6.c19
    go_wp2_with fail
    have hsz : w.heap.size ≤ w1.heap.size := hB.size
    go_ret2
    exact hE.out _ _ (ownsRow_base (ownsRow_below (ownsRow_below (ownsRow_below (ownsRow_below hown hb3) hb4) hb5) hb6) hsz) hB6

end Go.Proofs.Ytkhnfmdhdfpdhaa
