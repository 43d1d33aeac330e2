/-
  What is proved here: a pattern with an 8 takes points away, and makes none (no function of the program is named).
-/
import Derived.Test.YtfblhpkndfbhgaaDoorFoldM
namespace Go.Proofs.YtfblhpkndfbhgaaDoor

/-- A run of letters with an 8 within. -/
def eight (r : Bs) (a : Nat) : Bs := r.take a ++ 56 :: r.drop a
theorem ltr_of_small {c : UInt8} (h : sml c = true) : dgt c = false := by
  have := smI_rng h
  unfold dgt
  exact dgI_no (by omega)
theorem ltrs_small {r : Bs} (h : ∀ c ∈ r, sml c = true) : ltrs r = r := by
  unfold ltrs
  rw [List.filter_eq_self]
  intro c hc
  rw [ltr_of_small (h c hc)]; rfl
theorem digs_small : ∀ (n : Nat) (r : Bs), (∀ c ∈ r, sml c = true) → digs n r = []
  | _, [], _ => rfl
  | n, c :: r, h => by
    rw [digs, if_neg (by rw [ltr_of_small (h c (by simp))]; simp)]
    exact digs_small (n + 1) r (fun d hd => h d (by simp [hd]))
theorem eight_ltrs {r : Bs} (h : ∀ c ∈ r, sml c = true) (a : Nat) : ltrs (eight r a) = r := by
  have h1 : ltrs (r.take a) = r.take a := ltrs_small (fun c hc => h c (List.mem_of_mem_take hc))
  have h2 : ltrs (r.drop a) = r.drop a := ltrs_small (fun c hc => h c (List.mem_of_mem_drop hc))
  unfold eight ltrs at *
  rw [List.filter_append, h1, List.filter_cons, h2]
  have : dgt 56 = true := by decide
  rw [this]
  simp
theorem eight_digs {r : Bs} (h : ∀ c ∈ r, sml c = true) {a : Nat} (ha : a ≤ r.length) : digs 0 (eight r a) = [(a, 8)] := by
  have h1 := digs_small 0 (r.take a) (fun c hc => h c (List.mem_of_mem_take hc))
  unfold eight
  rw [digs_append, h1, ltrs_small (fun c hc => h c (List.mem_of_mem_take hc)), digs, if_pos (by decide), digs_small _ _ (fun c hc => h c (List.mem_of_mem_drop hc)), List.length_take, Nat.min_eq_left ha]
  simp
theorem eight_pat {r : Bs} (h : ∀ c ∈ r, sml c = true) (hn : r ≠ []) (hl : r.length ≤ 12) {a : Nat} (ha : a ≤ r.length) : patB (eight r a) = true := by
  have hnd : ∀ c ∈ eight r a, c ≠ 46 := by
    intro c hc
    unfold eight at hc
    rcases List.mem_append.1 hc with h1 | h1
    · intro e; subst e
      exact absurd (h _ (List.mem_of_mem_take h1)) (by decide)
    · rcases List.mem_cons.1 h1 with rfl | h1
      · decide
      · intro e; subst e
        exact absurd (h _ (List.mem_of_mem_drop h1)) (by decide)
  have hlen : (eight r a).length = r.length + 1 := by
    unfold eight; simp; omega
  have htr : trimD (eight r a) = eight r a := by
    have h1 : Lib.trimPrefix (eight r a) [46] = eight r a := by
      unfold Lib.trimPrefix Lib.hasPrefix
      rw [if_neg]
      intro hp
      obtain ⟨t, ht⟩ := List.isPrefixOf_iff_prefix.1 hp
      exact hnd 46 (by rw [← ht]; simp) rfl
    unfold trimD
    rw [h1]
    unfold Lib.trimSuffix Lib.hasSuffix
    rw [if_neg]
    intro hp
    obtain ⟨t, ht⟩ := List.isSuffixOf_iff_suffix.1 hp
    exact hnd 46 (by rw [← ht]; simp) rfl
  unfold patB
  rw [htr, decide_eq_true (by omega), Bool.true_and]
  unfold patT
  rw [Bool.and_eq_true]
  refine ⟨?_, ?_⟩
  · rw [List.all_eq_true]
    intro i hi
    have hil := List.mem_range.1 hi
    have hget : ∀ j, j < (eight r a).length → j ≠ a → sml ((eight r a).getD j 0) = true := by
      intro j hj hja
      rw [List.getD_eq_getElem?_getD]
      have hq : ∃ c, (eight r a)[j]? = some c ∧ c ∈ r := by
        unfold eight
        by_cases hlt : j < (r.take a).length
        · rw [List.getElem?_append_left hlt, List.getElem?_eq_getElem hlt]
          exact ⟨_, rfl, List.mem_of_mem_take (List.getElem_mem _)⟩
        · rw [List.length_take, Nat.min_eq_left ha] at hlt
          obtain ⟨m, hm⟩ : ∃ m, j - a = m + 1 := ⟨j - a - 1, by omega⟩
          have hml : m < (r.drop a).length := by rw [List.length_drop]; omega
          rw [List.getElem?_append_right (by rw [List.length_take]; omega), List.length_take, Nat.min_eq_left ha, hm, List.getElem?_cons_succ, List.getElem?_eq_getElem hml]
          exact ⟨_, rfl, List.mem_of_mem_drop (List.getElem_mem _)⟩
      obtain ⟨c, h1, h2⟩ := hq
      rw [h1]
      exact h c h2
    unfold okAt
    by_cases hia : i = a
    · subst hia
      have h8 : (eight r i).getD i 0 = 56 := by
        unfold eight
        rw [List.getD_eq_getElem?_getD, List.getElem?_append_right (by rw [List.length_take]; omega), List.length_take, Nat.min_eq_left ha, Nat.sub_self]; rfl
      rw [h8]
      have d8 : dgt 56 = true := by decide
      rw [d8, Bool.true_and]
      by_cases h0 : 0 < i
      · have := hget (i - 1) (by omega) (by omega)
        rw [ltr_of_small this]; simp
      · rw [decide_eq_false h0]; simp
    · rw [hget i hil hia]; rfl
  · rw [decide_eq_true_eq]
    obtain ⟨c, hc⟩ := List.exists_mem_of_ne_nil r hn
    have hm : c ∈ eight r a := by
      unfold eight
      rw [← List.take_append_drop a r] at hc
      rcases List.mem_append.1 hc with h1 | h1
      · exact List.mem_append.2 (.inl h1)
      · exact List.mem_append.2 (.inr (by simp [h1]))
    exact List.length_pos_of_mem (List.mem_filter.2 ⟨hm, h c hc⟩)

/-- The run stands where its 8 is at a place. -/
def stands (r w : Bs) (a : Nat) (k : Int) : Bool := decide (0 ≤ k - a) && (decide (k - a + r.length ≤ w.length) && decide ((w.drop (k - a).toNat).take r.length = r))
theorem stands_iff {r w : Bs} (hr : ∀ c ∈ r, sml c = true) (hn : r ≠ []) {a : Nat} (k : Nat) : (∃ i, i < (dot w).length ∧ r <+: (dot w).drop i ∧ i + a = k + 1) ↔ stands r w a k = true := by
  have hpos : 0 < r.length := List.length_pos_iff.2 hn
  have hnd : (46 : UInt8) ∉ r := fun h => absurd (hr _ h) (by decide)
  have hin : ∀ f, r <+: w.drop f ++ [46] → r <+: w.drop f := by
    intro f hp
    by_cases hl : r.length ≤ (w.drop f).length
    · exact List.prefix_of_prefix_length_le hp (List.prefix_append _ _) hl
    · obtain ⟨t, ht⟩ := hp
      have hlen := congrArg List.length ht
      simp only [List.length_append, List.length_singleton] at hlen
      have ht0 : t = [] := List.eq_nil_of_length_eq_zero (by omega)
      subst ht0
      rw [List.append_nil] at ht
      exact absurd (by rw [ht]; simp) hnd
  have hdl : (dot w).length = w.length + 2 := by simp [dot]
  constructor
  · rintro ⟨i, hi, hp, he⟩
    match i, hi, hp, he with
    | 0, _, hp, _ =>
      obtain ⟨t, ht⟩ := hp
      cases r with
      | nil => exact absurd rfl hn
      | cons c r =>
        simp only [dot, List.drop_zero, List.cons_append, List.cons.injEq] at ht
        exact absurd (by rw [ht.1]; simp) hnd
    | f + 1, hi, hp, he =>
      have hd : (dot w).drop (f + 1) = (w ++ [46]).drop f := rfl
      rw [hd, List.drop_append_of_le_length (by omega)] at hp
      obtain ⟨t, ht⟩ := hin f hp
      have hlen := congrArg List.length ht
      rw [List.length_append, List.length_drop] at hlen
      have hk : (k : Int) - a = f := by omega
      unfold stands
      rw [hk, decide_eq_true (by omega), decide_eq_true (by omega), Int.toNat_natCast, ← ht, decide_eq_true (by simp)]; rfl
  · intro hs
    unfold stands at hs
    simp only [Bool.and_eq_true, decide_eq_true_eq] at hs
    obtain ⟨h1, h2, h3⟩ := hs
    obtain ⟨f, hf⟩ : ∃ f : Nat, (k : Int) - a = f := ⟨((k : Int) - a).toNat, by omega⟩
    rw [hf] at h2 h3
    rw [Int.toNat_natCast] at h3
    refine ⟨f + 1, by omega, ?_, by omega⟩
    have hd : (dot w).drop (f + 1) = (w ++ [46]).drop f := rfl
    rw [hd, List.drop_append_of_le_length (by omega)]
    exact (show r <+: w.drop f by rw [← h3]; exact List.take_prefix _ _).trans (List.prefix_append _ _)

theorem valI_low {ps : List Bs} (h : ∀ p ∈ ps, ∀ c ∈ p, ¬ (56 ≤ c.toNat ∧ c.toNat ≤ 57)) (text : Bs) (j : Nat) : valI ps text j ≤ 7 := by
  apply Classical.byContradiction
  intro hc
  obtain ⟨p, hp, i, _, _, x, hx, _, h8⟩ := (le_valI (v := 8) (by omega)).1 (by omega : (8 : Int) ≤ valI ps text j)
  suffices hd : ∀ (n : Nat) (q : Bs), (∀ c ∈ q, ¬ (56 ≤ c.toNat ∧ c.toNat ≤ 57)) → ∀ y ∈ digs n q, y.2 < 8 by
    have := hd 0 p (h p hp) x hx
    omega
  intro n q
  induction q generalizing n with
  | nil => intro _ y hy; cases hy
  | cons c q ih =>
    intro hq y hy
    rw [digs] at hy
    by_cases hdg : dgt c = true
    · rw [if_pos hdg] at hy
      rcases List.mem_cons.1 hy with rfl | hy
      · have h1 := hq c (by simp)
        have h2 := dgt_rng hdg
        show (c.toNat : Int) - 48 < 8
        omega
      · exact ih n (fun d hd => hq d (by simp [hd])) y hy
    · rw [if_neg hdg] at hy
      exact ih (n + 1) (fun d hd => hq d (by simp [hd])) y hy
theorem valI_eight {ps : List Bs} (h : ∀ p ∈ ps, ∀ c ∈ p, ¬ (56 ≤ c.toNat ∧ c.toNat ≤ 57)) {r w : Bs} (hr : ∀ c ∈ r, sml c = true) (hn : r ≠ []) {a : Nat} (ha : a ≤ r.length) (k : Nat) :
    valI (ps ++ [eight r a]) (dot w) (k + 1) = if stands r w a k then 8 else valI ps (dot w) (k + 1) := by
  have hlow := valI_low h (dot w) (k + 1)
  have hnn := valI_nonneg ps (dot w) (k + 1)
  refine eq_of_le (valI_nonneg _ _ _) (by split <;> omega) fun v hv => ?_
  have hsplit : Has (ps ++ [eight r a]) (dot w) (k + 1) v (dot w).length ↔ Has ps (dot w) (k + 1) v (dot w).length ∨ (stands r w a k = true ∧ v ≤ 8) := by
    rw [← stands_iff hr hn]
    unfold Has
    simp only [List.mem_append, List.mem_singleton]
    constructor
    · rintro ⟨p, hp | rfl, i, hi, h1, x, hx, h2, h3⟩
      · exact .inl ⟨p, hp, i, hi, h1, x, hx, h2, h3⟩
      · rw [eight_ltrs hr] at h1
        rw [eight_digs hr ha, List.mem_singleton] at hx
        subst hx
        exact .inr ⟨⟨i, hi, h1, h2⟩, h3⟩
    · rintro (⟨p, hp, i, hi, h1, x, hx, h2, h3⟩ | ⟨⟨i, hi, h1, h2⟩, h3⟩)
      · exact ⟨p, .inl hp, i, hi, h1, x, hx, h2, h3⟩
      · exact ⟨_, .inr rfl, i, hi, by rw [eight_ltrs hr]; exact h1, (a, 8), by rw [eight_digs hr ha]; simp, h2, h3⟩
  rw [le_valI hv, hsplit, ← le_valI hv]
  cases hs : stands r w a k with
  | true => simp; omega
  | false => simp
theorem oddV_eight {ps : List Bs} (h : ∀ p ∈ ps, ∀ c ∈ p, ¬ (56 ≤ c.toNat ∧ c.toNat ≤ 57)) {r w : Bs} (hr : ∀ c ∈ r, sml c = true) (hn : r ≠ []) {a : Nat} (ha : a ≤ r.length) :
    oddV (ps ++ [eight r a]) w = (oddV ps w).filter (fun k => !stands r w a k) := by
  unfold oddV
  rw [List.filter_map, List.filter_filter]
  congr 1
  apply List.filter_congr
  intro j _
  rw [valI_eight h hr hn ha]
  show _ = (!stands r w a (j : Int) && _)
  cases hs : stands r w a j with
  | true => simp
  | false => simp
end Go.Proofs.YtfblhpkndfbhgaaDoor
