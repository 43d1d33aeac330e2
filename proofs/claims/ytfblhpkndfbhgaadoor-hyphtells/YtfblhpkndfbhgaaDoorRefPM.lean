/-
  What is proved here: what the document calls a pattern, place by place, is what the program calls one (no function of the program is named).
-/
import Derived.Test.YtfblhpkndfbhgaaDoorFoldM
namespace Go.Proofs.YtfblhpkndfbhgaaDoor

/-- The document's rule for one place of a pattern. -/
def rOk (p : Bs) (i : Nat) : Bool :=
  (sml (p.getD i 0) || (dgt (p.getD i 0) || (p.getD i 0 == 46 && (decide (i = 0) || decide (i = p.length - 1))))) &&
  !(dgt (p.getD i 0) && ((decide (0 < i) && dgt (p.getD (i - 1) 0)) || ((decide (i = p.length - 1) && (decide (0 < i) && (p.getD (i - 1) 0 == 46))) || (decide (i = 0) && (decide (1 < p.length) && (p.getD 1 0 == 46))))))
def rPat (p : Bs) : Bool := decide (1 ≤ p.length) && (decide (p.length ≤ 16) && ((List.range p.length).all (rOk p) && decide (0 < (p.filter sml).length)))
theorem dot_not_small : sml 46 = false := by decide
theorem dot_not_digit : dgt 46 = false := by decide
theorem trim_shape (p : Bs) : ∃ o e : Nat, o ≤ 1 ∧ e ≤ 1 ∧ p = List.replicate o 46 ++ (trimD p ++ List.replicate e 46) ∧ (o = 0 → p.getD 0 0 ≠ 46 ∨ p = []) ∧ (e = 0 → ∀ i, i + 1 = (trimD p).length → (trimD p).getD i 0 ≠ 46) := by
  have h1 : ∃ o : Nat, o ≤ 1 ∧ p = List.replicate o 46 ++ Lib.trimPrefix p [46] ∧ (o = 0 → p.getD 0 0 ≠ 46 ∨ p = []) := by
    cases p with
    | nil => exact ⟨0, by omega, by rfl, fun _ => .inr rfl⟩
    | cons c l =>
      by_cases hc : c = 46
      · subst hc
        refine ⟨1, by omega, ?_, fun h => by omega⟩
        rfl
      · refine ⟨0, by omega, ?_, fun _ => .inl (by simpa using hc)⟩
        unfold Lib.trimPrefix Lib.hasPrefix
        rw [if_neg]
        · rfl
        · intro h
          obtain ⟨t, ht⟩ := List.isPrefixOf_iff_prefix.1 h
          simp at ht
          exact hc ht.1.symm
  obtain ⟨o, ho, hp, h0⟩ := h1
  have h2 : ∀ q : Bs, ∃ e : Nat, e ≤ 1 ∧ q = Lib.trimSuffix q [46] ++ List.replicate e 46 ∧ (e = 0 → ∀ i, i + 1 = (Lib.trimSuffix q [46]).length → (Lib.trimSuffix q [46]).getD i 0 ≠ 46) := by
    intro q
    unfold Lib.trimSuffix Lib.hasSuffix
    by_cases hs : ([46] : Bs).isSuffixOf q = true
    · rw [if_pos hs]
      obtain ⟨t, ht⟩ := List.isSuffixOf_iff_suffix.1 hs
      refine ⟨1, by omega, ?_, fun h => by omega⟩
      rw [← ht]
      simp
    · rw [if_neg hs]
      refine ⟨0, by omega, by simp, fun _ i hi he => hs ?_⟩
      rw [List.isSuffixOf_iff_suffix]
      refine ⟨q.take i, ?_⟩
      have hil : i < q.length := by omega
      rw [List.getD_eq_getElem?_getD, List.getElem?_eq_getElem hil] at he
      have he' : q[i] = 46 := he
      rw [← he', ← List.take_succ_eq_append_getElem hil, List.take_of_length_le (by omega)]
  obtain ⟨e, he, hq, h3⟩ := h2 (Lib.trimPrefix p [46])
  refine ⟨o, e, ho, he, ?_, h0, ?_⟩
  · unfold trimD
    rw [← hq]; exact hp
  · exact h3
theorem rPat_is (p : Bs) : rPat p = patB p := by
  obtain ⟨o, e, ho, he, hp, hno, hne⟩ := trim_shape p
  unfold rPat patB patT
  generalize trimD p = t at *
  have hlen : p.length = o + t.length + e := by rw [hp]; simp; omega
  have hmid : ∀ i, i < t.length → p.getD (o + i) 0 = t.getD i 0 := by
    intro i hi
    rw [List.getD_eq_getElem?_getD, List.getD_eq_getElem?_getD, hp, List.getElem?_append_right (by simp), List.length_replicate, Nat.add_sub_cancel_left, List.getElem?_append_left hi]
  have hlo : o = 1 → p.getD 0 0 = 46 := by rintro rfl; rw [hp]; rfl
  have hhi : e = 1 → p.getD (p.length - 1) 0 = 46 := by
    rintro rfl
    rw [List.getD_eq_getElem?_getD, show p.length - 1 = o + t.length by omega, hp, List.getElem?_append_right (by simp), List.length_replicate, Nat.add_sub_cancel_left, List.getElem?_append_right (by omega), Nat.sub_self]
    rfl
  have hf : p.filter sml = t.filter sml := by
    have hr : ∀ n : Nat, (List.replicate n (46 : UInt8)).filter sml = [] := fun n => by simp [dot_not_small]
    rw [hp, List.filter_append, List.filter_append, hr, hr]; simp
  rw [hf]
  by_cases hz' : ¬ 0 < (t.filter sml).length
  · rw [decide_eq_false hz']; simp
  have hz : 0 < (t.filter sml).length := by omega
  rw [decide_eq_true hz, Bool.and_true, Bool.and_true]
  have htl : 0 < t.length := Nat.lt_of_lt_of_le hz (List.length_filter_le _ _)
  have h1 : decide (1 ≤ p.length) = true := by rw [decide_eq_true_eq]; omega
  rw [h1, Bool.true_and]
  congr 1
  -- one digit alone has no letter
  have hone : t.length = 1 → dgt (t.getD 0 0) = true → False := by
    intro h1 h2
    obtain ⟨c, rfl⟩ := List.length_eq_one_iff.1 h1
    have hc : dgt c = true := h2
    have hs : sml c = false := by
      have hr := dgI_rng hc
      exact smI_no (by omega)
    rw [List.filter_cons, hs] at hz
    simp at hz
  have hsd : ∀ c : UInt8, (sml c = true ∨ dgt c = true) → c ≠ 46 := by
    rintro c (h | h) rfl
    · cases (dot_not_small ▸ h)
    · cases (dot_not_digit ▸ h)
  have hsnd : ∀ c : UInt8, sml c = true → dgt c = false := fun c h => by
    have hr := smI_rng h
    exact dgI_no (by omega)
  apply Bool.eq_iff_iff.2
  rw [List.all_eq_true, List.all_eq_true]
  constructor
  · intro h i hi
    have hil := List.mem_range.1 hi
    have hr := h (o + i) (List.mem_range.2 (by omega))
    unfold rOk at hr
    rw [hmid i hil] at hr
    simp only [Bool.and_eq_true, Bool.or_eq_true, Bool.not_eq_true', Bool.and_eq_false_iff, Bool.or_eq_false_iff, decide_eq_true_eq, decide_eq_false_iff_not, beq_iff_eq] at hr
    unfold okAt
    simp only [Bool.and_eq_true, Bool.or_eq_true, Bool.not_eq_true', Bool.and_eq_false_iff, decide_eq_false_iff_not]
    obtain ⟨h2, h3⟩ := hr
    rcases h2 with h2 | h2 | ⟨h2, h4⟩
    · exact .inl h2
    · refine .inr ⟨h2, ?_⟩
      rcases h3 with h3 | ⟨h3, -⟩
      · rw [h2] at h3; cases h3
      · by_cases hi0 : i = 0
        · exact .inl (by omega)
        · rcases h3 with h3 | h3
          · exact absurd h3 (by omega)
          · refine .inr ?_
            rw [show o + i - 1 = o + (i - 1) by omega, hmid _ (by omega)] at h3
            exact h3
    · exfalso
      rcases h4 with h4 | h4
      · have ho0 : o = 0 := by omega
        have hi0 : i = 0 := by omega
        subst hi0
        have := hmid 0 hil
        rw [ho0] at this
        rcases hno ho0 with h5 | h5
        · exact h5 (by rw [show (0 : Nat) = 0 + 0 from rfl, this]; exact h2)
        · rw [h5] at hlen; simp at hlen; omega
      · have he0 : e = 0 := by omega
        exact hne he0 i (by omega) h2
  · intro h j hj
    have hjl := List.mem_range.1 hj
    have hok : ∀ i, i < t.length → (sml (t.getD i 0) = true ∨ dgt (t.getD i 0) = true) ∧ (dgt (t.getD i 0) = true → 0 < i → dgt (t.getD (i - 1) 0) = false) := by
      intro i hi
      have hr := h i (List.mem_range.2 hi)
      unfold okAt at hr
      simp only [Bool.and_eq_true, Bool.or_eq_true, Bool.not_eq_true', Bool.and_eq_false_iff, decide_eq_false_iff_not] at hr
      rcases hr with hr | ⟨hr, h2⟩
      · exact ⟨.inl hr, fun hd => by rw [hsnd _ hr] at hd; cases hd⟩
      · refine ⟨.inr hr, fun _ h0 => ?_⟩
        rcases h2 with h2 | h2
        · omega
        · exact h2
    unfold rOk
    simp only [Bool.and_eq_true, Bool.or_eq_true, Bool.not_eq_true', Bool.and_eq_false_iff, Bool.or_eq_false_iff, decide_eq_true_eq, decide_eq_false_iff_not, beq_iff_eq, beq_eq_false_iff_ne]
    by_cases h1 : j < o
    · have h46 : p.getD j 0 = 46 := by rw [show j = 0 by omega]; exact hlo (by omega)
      rw [h46]
      exact ⟨.inr (.inr ⟨rfl, .inl (by omega)⟩), .inl dot_not_digit⟩
    by_cases h2 : o + t.length ≤ j
    · have h46 : p.getD j 0 = 46 := by rw [show j = p.length - 1 by omega]; exact hhi (by omega)
      rw [h46]
      exact ⟨.inr (.inr ⟨rfl, .inr (by omega)⟩), .inl dot_not_digit⟩
    obtain ⟨i, rfl⟩ : ∃ i, j = o + i := ⟨j - o, by omega⟩
    have hi : i < t.length := by omega
    rw [hmid i hi]
    obtain ⟨g1, g2⟩ := hok i hi
    refine ⟨by rcases g1 with g | g; exact .inl g; exact .inr (.inl g), ?_⟩
    cases hd : dgt (t.getD i 0) with
    | false => exact .inl rfl
    | true =>
      refine .inr ⟨?_, ?_, ?_⟩
      · by_cases hi0 : i = 0
        · subst hi0
          by_cases ho0 : o = 0
          · exact .inl (by omega)
          · refine .inr ?_
            rw [show o + 0 - 1 = 0 by omega, hlo (by omega)]; exact dot_not_digit
        · refine .inr ?_
          rw [show o + i - 1 = o + (i - 1) by omega, hmid _ (by omega)]
          exact g2 hd (by omega)
      · by_cases hl : o + i = p.length - 1
        · by_cases hi0 : i = 0
          · subst hi0
            exact absurd hd (fun hd => hone (by omega) hd)
          · refine .inr (.inr ?_)
            rw [show o + i - 1 = o + (i - 1) by omega, hmid _ (by omega)]
            exact hsd _ (hok (i - 1) (by omega)).1
        · exact .inl hl
      · by_cases hl : o + i = 0
        · have ho0 : o = 0 := by omega
          have hi0 : i = 0 := by omega
          subst hi0
          by_cases ht1 : t.length = 1
          · exact absurd hd (fun hd => hone ht1 hd)
          · refine .inr (.inr ?_)
            have := hmid 1 (by omega)
            rw [ho0] at this
            rw [show (1 : Nat) = 0 + 1 from rfl, this]
            exact hsd _ (hok 1 (by omega)).1
        · exact .inl hl
end Go.Proofs.YtfblhpkndfbhgaaDoor
