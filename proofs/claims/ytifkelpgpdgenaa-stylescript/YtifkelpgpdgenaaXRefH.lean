/-
  What is proved here: what the document's own style and Resolve answer (for StyleScript).
-/
import Derived.Test.YtifkelpgpdgenaaXRefB
import Derived.Test.YtifkelpgpdgenaaXRefG
namespace Go.Proofs.Ytifkelpgpdgenaa
open Go.RowKit Go.Shelf

variable {X : Nat → Prop}

set_option maxRecDepth 100000 in
set_option maxHeartbeats 4000000 in
theorem refStyle_top (g : Nat) (S : Sh) (w : World) :
    Calls Try.prog 59 #[.pointer (some ⟨g, 0, none⟩), .string e0] w fun e w' => ∃ m, Makes S baseL e0 m ∧ e = .returned (.agg (prC m)) ∧ Below w.heap.size w w' := by
  obtain ⟨hB, hR⟩ := room_made w
  generalize hw0 : w.alloc (.cells #[Value.int IntKind.i64 0, Value.int IntKind.i64 0, Value.int IntKind.i64 0, Value.int IntKind.i64 0, Value.int IntKind.i64 0, Value.int IntKind.i64 0, Value.int IntKind.i64 0, Value.int IntKind.i64 0, Value.int IntKind.i64 0, Value.int IntKind.i64 0, Value.int IntKind.i64 0, Value.int IntKind.i64 0, Value.int IntKind.i64 0, Value.int IntKind.i64 0, Value.int IntKind.i64 0, Value.int IntKind.i64 0, Value.int IntKind.i64 0] 23) = w0 at *
  unfold e0
  go_enter Try.func59, Try.ntmps59
  go_wp2_with fail
  try rw [hw0]
  clear hw0
  refine (refBase_any _).mono ?_
  rintro e w1 ⟨rfl, b1⟩
  have hR1 := hR.below b1 hR.lt
  have B1 := hB.trans (b1.mono hB.size)
  have hE : Hid _ := And.intro (hR1.setRow (l' := baseL) rfl) (below_setRow B1 (Nat.le_refl w.heap.size) (prC baseL))
  clear hR b1
  unfold prV
  go_wp2_with (refine wpList_store_row rfl 23 _ _ rfl w.heap.size (prC baseL) rfl rfl 23 _ hR1.row (info23l rfl) rfl (prC_one _) ?_)
  refine bodyPost_ret (results_cell_row rfl _ _ w.heap.size 23 _ (0, 0) _ rfl hE.out.1.row Try.underlying23 rfl (info23l rfl)) rfl ?_
  exact ⟨baseL, Makes.top, rfl, hE.out.2⟩

/-- The first place of a name. -/
theorem shOf_first {T : List (Str × Sty)} {s : Str} (h : (shOf T s).isSome = true) : ∃ (i : Nat) (hi : i < T.length), T[i].1 = s ∧ (∀ (j : Nat) (hj : j < i), (T[j]'(by omega)).1 ≠ s) ∧ shOf T s = some T[i].2 := by
  classical
  unfold shOf at h
  rw [Option.isSome_map] at h
  obtain ⟨x, hx⟩ := Option.isSome_iff_exists.1 h
  obtain ⟨h1, i, hi, h2, h3⟩ := List.find?_eq_some_iff_getElem.1 hx
  have h4 : T[i].1 = s := by rw [h2]; simpa using h1
  have h5 : ∀ (j : Nat) (hj : j < i), (T[j]'(by omega)).1 ≠ s := fun j hj => by simpa using h3 j hj
  exact ⟨i, hi, h4, h5, shOf_some hi h4 h5⟩

theorem refAt_there (g : Nat) (T : List (Str × Sty)) (s : Str) (w : World) (hR : RefAt X w g T) (i : Nat) (hi : i < T.length) (h1 : T[i].1 = s) (h2 : ∀ (j : Nat) (hj : j < i), (T[j]'(by omega)).1 ≠ s) :
    Calls Try.prog 44 #[.pointer (some ⟨g, 0, none⟩), .string s] w fun e w' => e = .returned (.int .i64 i) ∧ w' = w := by
  refine (refAt_any g T s w hR).mono ?_
  rintro e w' ⟨rfl, ⟨j, hj, rfl, k1, k2⟩ | ⟨rfl, k1⟩⟩
  · have : i = j := by
      rcases Nat.lt_trichotomy i j with h | h | h
      · exact absurd h1 (k2 i h)
      · exact h
      · exact absurd k1 (h2 j h)
    subst this
    exact ⟨rfl, rfl⟩
  · exact absurd h1 (k1 _ (List.getElem_mem hi))
theorem refAt_not (g : Nat) (T : List (Str × Sty)) (s : Str) (w : World) (hR : RefAt X w g T) (h : shOf T s = none) :
    Calls Try.prog 44 #[.pointer (some ⟨g, 0, none⟩), .string s] w fun e w' => e = .returned (.int .i64 (-1)) ∧ w' = w := by
  refine (refAt_sh g T s w hR).mono ?_
  rintro e w' ⟨rfl, ⟨j, hj, rfl, k1, k2⟩ | ⟨rfl, k1⟩⟩
  · rw [h] at k2; cases k2
  · exact ⟨rfl, rfl⟩

theorem refStyle_any (g : Nat) (T : List (Str × Sty)) (hWF : WF (shOf T)) (s : Str) (hs : s = e0 ∨ (shOf T s).isSome = true) (w : World) (h : RefAt X w g T) :
    Calls Try.prog 59 #[.pointer (some ⟨g, 0, none⟩), .string s] w fun e w' => ∃ m, Makes (shOf T) baseL s m ∧ e = .returned (.agg (prC m)) ∧ Below w.heap.size w w' := by
  obtain ⟨r, hr⟩ := hWF.rank
  have key : ∀ (k : Nat) (s : Str), r s < k → (s = e0 ∨ (shOf T s).isSome = true) → ∀ w, RefAt X w g T → Calls Try.prog 59 #[.pointer (some ⟨g, 0, none⟩), .string s] w fun e w' => ∃ m, Makes (shOf T) baseL s m ∧ e = .returned (.agg (prC m)) ∧ Below w.heap.size w w' := by
    intro k
    induction k with
    | zero => intro s hk; omega
    | succ k ih =>
      intro s hk hs w h
      by_cases hse : s = e0
      · rw [hse]; exact refStyle_top g _ w
      · have hsome : (shOf T s).isSome = true := by rcases hs with hs | hs; exact absurd hs hse; exact hs
        obtain ⟨i, hi, h1, h2, h3⟩ := shOf_first hsome
        refine (refStyle_step g T s hse w h i hi (refuseL_allP (hWF.fits s T[i].2.1 T[i].2.2 h3)) (Makes (shOf T) baseL T[i].2.1) (fun m hm => hm.length rfl) (fun W hW => refAt_there g T s W (h.below hW) i hi h1 h2) (fun W hW => ?_)).mono ?_
        · by_cases hp : T[i].2.1 = e0
          · rw [hp]; exact refStyle_top g _ W
          · obtain ⟨y, hy⟩ := hWF.up s T[i].2.1 T[i].2.2 h3 hp
            exact ih T[i].2.1 (by have := hr s T[i].2.1 T[i].2.2 h3 hp; omega) (.inr (by rw [hy]; rfl)) W (h.below hW)
        · rintro e w' ⟨m, hm, rfl, hb⟩
          exact ⟨_, Makes.style h3 hse hm, rfl, hb⟩
  exact key (r s + 1) s (by omega) hs w h

set_option maxRecDepth 100000 in
set_option maxHeartbeats 4000000 in
theorem refResolve_any (g : Nat) (T : List (Str × Sty)) (hWF : WF (shOf T)) (name : Str) (v : Value) (own : List (Int × Int)) (w : World) (h : RefAt X w g T) (hL : SetsAt w v own) :
    Calls Try.prog 46 #[.pointer (some ⟨g, 0, none⟩), .string name, v] w (resPost w (shOf T) name own) := by
  obtain ⟨hB, hR⟩ := room_made w
  generalize hw0 : w.alloc (.cells #[Value.int IntKind.i64 0, Value.int IntKind.i64 0, Value.int IntKind.i64 0, Value.int IntKind.i64 0, Value.int IntKind.i64 0, Value.int IntKind.i64 0, Value.int IntKind.i64 0, Value.int IntKind.i64 0, Value.int IntKind.i64 0, Value.int IntKind.i64 0, Value.int IntKind.i64 0, Value.int IntKind.i64 0, Value.int IntKind.i64 0, Value.int IntKind.i64 0, Value.int IntKind.i64 0, Value.int IntKind.i64 0, Value.int IntKind.i64 0] 23) = w0 at *
  have h0 := h.below hB
  have hL0 := hL.below hB
  obtain ⟨a, cap, rfl, _⟩ := hL.ex
  by_cases hmiss : name ≠ e0 ∧ shOf T name = none
  · have he : resE (shOf T) name own = 6 := by unfold resE; rw [if_pos hmiss]
    have hE := isEmpty_no (size_pos hmiss.1)
    have hat := refAt_not g T name w0 h0 hmiss.2
    have hfin := resPost_no (below_setRow hB (Nat.le_refl w.heap.size) (prC zeroL)) he (by decide)
    have hR3 := hR.setRow (l' := zeroL) rfl
    replace hfin : Hid _ := hfin
    clear h0 hL0 hL h
    go_enter Try.func46, Try.ntmps46
    go_wp2_with fail
    try rw [hw0]
    clear hw0
    refine hat.mono ?_
    rintro e w' ⟨rfl, hww⟩
    subst w'
    go_wp2_with (refine wpList_store_row rfl 23 _ _ rfl w.heap.size (prC zeroL) rfl rfl 23 _ hR.row (info23l rfl) rfl (prC_one _) ?_)
    refine bodyPost_ret (results_cell_row2 rfl _ _ w.heap.size 23 _ (0, 0) _ rfl hR3.row Try.underlying23 rfl (info23l rfl)) rfl ?_
    exact hfin.out
  · have he : Hid (resE (shOf T) name own = refuseL own) := by unfold resE; rw [if_neg hmiss]; exact rfl
    have hsome : name = e0 ∨ (shOf T name).isSome = true := by
      by_cases hn : name = e0
      · exact .inl hn
      · right
        cases hx : shOf T name with
        | none => exact absurd ⟨hn, hx⟩ hmiss
        | some x => rfl
    clear hmiss
    by_cases hn : name = e0
    · have hE : (ByteArray.toList name).isEmpty = true := by rw [hn, toList_data]; rfl
      replace hsome : Hid _ := hsome
      clear hn
      go_enter Try.func46, Try.ntmps46
      go_wp2_with fail
      try rw [hw0]
      clear hw0

      refine (refFitsL_any _ own _ hL0).mono ?_
      rintro e w2 ⟨rfl, b2⟩
      have h2 := h0.below b2
      have hL2 := hL0.below b2
      have hR2 := hR.below b2 hR.lt
      have B2 := hB.trans (b2.mono hB.size)
      clear hR h0 hL0 b2
      by_cases hr : refuseL own ≠ 0
      · have hr' : (refuseL own == 0) = false := by simpa using hr
        have hr'' : (refuseL own != 0) = true := by simpa using hr
        have hfin := resPost_no (below_setRow B2 (Nat.le_refl w.heap.size) (prC zeroL)) he.out hr
        have hR3 := hR2.setRow (l' := zeroL) rfl
        replace hfin : Hid _ := hfin
        generalize refuseL own = rr at *
        go_wp2_with (refine wpList_store_row rfl 23 _ _ rfl w.heap.size (prC zeroL) rfl rfl 23 _ hR2.row (info23l rfl) rfl (prC_one _) ?_)
        refine bodyPost_ret (results_cell_row2 rfl _ _ w.heap.size 23 _ (0, 0) _ rfl hR3.row Try.underlying23 rfl (info23l rfl)) rfl ?_
        exact hfin.out
      · have hr0 : refuseL own = 0 := Classical.not_not.1 hr
        rw [hr0] at he
        rw [hr0]
        have hlp := refuseL_allP hr0
        replace hlp : Hid _ := hlp
        clear hr hr0
        go_wp2_with fail
        refine (refStyle_any g T hWF name hsome.out w2 h2).mono ?_
        rintro e w4 ⟨m, hm, rfl, b4⟩
        have hL4 := hL2.below b4
        have hR4 := hR2.below b4 hR2.lt
        have B4 := B2.trans (b4.mono B2.size)
        have hml := hm.length rfl
        replace hm : Hid _ := hm
        clear hR2 h2 hL2 b4
        go_wp2_with fail
        refine (refMakes_any m hml _ own hlp.out _ hL4).mono ?_
        rintro e w5 ⟨rfl, b5⟩
        have hR5 := hR4.below b5 hR4.lt
        have B5 := B4.trans (b5.mono B4.size)
        have hfl : (applyL m own).length = 17 := by rw [applyL_length]; exact hml
        have hfin := resPost_yes (below_setRow B5 (Nat.le_refl w.heap.size) (prC (applyL m own))) he.out hm.out
        replace hfin : Hid _ := hfin
        have hR6 := hR5.setRow hfl
        clear hR4 hL4 b5
        unfold prV
        go_wp2_with (refine wpList_store_row rfl 23 _ _ rfl w.heap.size (prC (applyL m own)) rfl rfl 23 _ hR5.row (info23l hfl) (by rw [prC_size, prC_size, hfl]; rfl) (prC_one _) ?_)
        refine bodyPost_ret (results_cell_row2 rfl _ _ w.heap.size 23 _ (0, 0) _ rfl hR6.row Try.underlying23 rfl (info23l hfl)) rfl ?_
        exact hfin.out
    · have hE := isEmpty_no (size_pos hn)
      have hs2 : (shOf T name).isSome = true := by rcases hsome with h | h; exact absurd h hn; exact h
      obtain ⟨i, hi, h1, h2', _⟩ := shOf_first hs2
      have hat := refAt_there g T name w0 h0 i hi h1 h2'
      have hlt : ((i : Int) < 0) = False := by simp
      replace hsome : Hid _ := hsome
      clear hn h1 h2' hs2
      go_enter Try.func46, Try.ntmps46
      go_wp2_with fail
      try rw [hw0]
      clear hw0
      refine hat.mono ?_
      rintro e w' ⟨rfl, hww⟩
      subst w'
      go_wp2_with fail

      refine (refFitsL_any _ own _ hL0).mono ?_
      rintro e w2 ⟨rfl, b2⟩
      have h2 := h0.below b2
      have hL2 := hL0.below b2
      have hR2 := hR.below b2 hR.lt
      have B2 := hB.trans (b2.mono hB.size)
      clear hR h0 hL0 b2
      by_cases hr : refuseL own ≠ 0
      · have hr' : (refuseL own == 0) = false := by simpa using hr
        have hr'' : (refuseL own != 0) = true := by simpa using hr
        have hfin := resPost_no (below_setRow B2 (Nat.le_refl w.heap.size) (prC zeroL)) he.out hr
        have hR3 := hR2.setRow (l' := zeroL) rfl
        replace hfin : Hid _ := hfin
        generalize refuseL own = rr at *
        go_wp2_with (refine wpList_store_row rfl 23 _ _ rfl w.heap.size (prC zeroL) rfl rfl 23 _ hR2.row (info23l rfl) rfl (prC_one _) ?_)
        refine bodyPost_ret (results_cell_row2 rfl _ _ w.heap.size 23 _ (0, 0) _ rfl hR3.row Try.underlying23 rfl (info23l rfl)) rfl ?_
        exact hfin.out
      · have hr0 : refuseL own = 0 := Classical.not_not.1 hr
        rw [hr0] at he
        rw [hr0]
        have hlp := refuseL_allP hr0
        replace hlp : Hid _ := hlp
        clear hr hr0
        go_wp2_with fail
        refine (refStyle_any g T hWF name hsome.out w2 h2).mono ?_
        rintro e w4 ⟨m, hm, rfl, b4⟩
        have hL4 := hL2.below b4
        have hR4 := hR2.below b4 hR2.lt
        have B4 := B2.trans (b4.mono B2.size)
        have hml := hm.length rfl
        replace hm : Hid _ := hm
        clear hR2 h2 hL2 b4
        go_wp2_with fail
        refine (refMakes_any m hml _ own hlp.out _ hL4).mono ?_
        rintro e w5 ⟨rfl, b5⟩
        have hR5 := hR4.below b5 hR4.lt
        have B5 := B4.trans (b5.mono B4.size)
        have hfl : (applyL m own).length = 17 := by rw [applyL_length]; exact hml
        have hfin := resPost_yes (below_setRow B5 (Nat.le_refl w.heap.size) (prC (applyL m own))) he.out hm.out
        replace hfin : Hid _ := hfin
        have hR6 := hR5.setRow hfl
        clear hR4 hL4 b5
        unfold prV
        go_wp2_with (refine wpList_store_row rfl 23 _ _ rfl w.heap.size (prC (applyL m own)) rfl rfl 23 _ hR5.row (info23l hfl) (by rw [prC_size, prC_size, hfl]; rfl) (prC_one _) ?_)
        refine bodyPost_ret (results_cell_row2 rfl _ _ w.heap.size 23 _ (0, 0) _ rfl hR6.row Try.underlying23 rfl (info23l hfl)) rfl ?_
        exact hfin.out
end Go.Proofs.Ytifkelpgpdgenaa
