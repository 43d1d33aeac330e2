/-
  What is proved here: what points hang on: neither the order of patterns nor the size of letters; that they rise, and keep letters on both sides (no function of the program is named).
-/
import Derived.Test.YtfblhpkndfbhgaaDoorTurned
namespace Go.Proofs.YtfblhpkndfbhgaaDoor

theorem newI_reverse (ps xs : List Bs) : newI ps.reverse xs = newI ps xs := by
  unfold newI
  rw [List.length_reverse, List.all_reverse]
theorem has_reverse {ps : List Bs} {text : Bs} {j : Nat} {v : Int} {n : Nat} : Has ps.reverse text j v n ↔ Has ps text j v n := by
  unfold Has
  simp only [List.mem_reverse]
theorem valI_reverse (ps : List Bs) (text : Bs) (j : Nat) : valI ps.reverse text j = valI ps text j :=
  eq_of_le (valI_nonneg _ _ _) (valI_nonneg _ _ _) fun v hv => by rw [le_valI hv, le_valI hv, has_reverse]
theorem ptV_reverse (ps xs : List Bs) (l : Bs) : ptV ps.reverse xs l = ptV ps xs l := by
  unfold ptV oddV
  simp only [valI_reverse]
theorem ptV_alike {ps xs : List Bs} {l m : Bs} (h : Alike l m) : ptV ps xs l = ptV ps xs m := by
  unfold ptV
  rw [h.word, h.1]
theorem ptE_alike {l m : Bs} (h : Alike l m) : ptE l = ptE m := by
  unfold ptE
  rw [h.word]
theorem parts_bare : ∀ l : Bs, (parts l).flatten = bare l
  | [] => rfl
  | c :: l => by
    rw [parts]
    have ih := parts_bare l
    unfold bare at ih ⊢
    by_cases h : (c == 45) = true
    · rw [if_pos h, List.filter_cons, h]
      simpa using ih
    · rw [if_neg h, List.filter_cons]
      have h' : (c == 45) = false := by simpa using h
      rw [h']
      cases hp : parts l with
      | nil => exact absurd hp (parts_ne l)
      | cons a b =>
        rw [hp] at ih
        simp only [List.flatten_cons, List.cons_append, Bool.not_false, if_true] at ih ⊢
        rw [ih]
theorem excW_bare (x : Bs) : excW x = bare x := by
  unfold excW wordTo
  rw [List.take_length, parts_bare]
theorem exE_none {u : Bs} : ∀ (n : Nat) (xs : List Bs), xs.length = n → (∀ x ∈ xs, bare x ≠ u) → exE xs u = none
  | 0, xs, hn, _ => by
    obtain rfl : xs = [] := List.eq_nil_of_length_eq_zero hn
    rfl
  | n + 1, xs, hn, h => by
    have hne : xs ≠ [] := by intro e; subst e; simp at hn
    obtain ⟨ys, x, rfl⟩ : ∃ ys x, xs = ys ++ [x] := ⟨xs.dropLast, xs.getLast hne, (List.dropLast_concat_getLast hne).symm⟩
    rw [exE_snoc]
    unfold setV
    rw [if_neg (fun e => h x (by simp) (by rw [e, excW_bare]))]
    exact exE_none n ys (by simpa using hn) (fun y hy => h y (by simp [hy]))
/-- Numbers that rise from more than one on, and end three ahead of a length. -/
def Rise (d : List Int) (n : Nat) : Prop := ∀ (j : Nat) (h : j < d.length), (if hj : j = 0 then (1 : Int) else d[j - 1]'(by omega)) < d[j] ∧ d[j] + 3 ≤ n
theorem oddV_rise (ps : List Bs) (l : Bs) : Rise (oddV ps l) l.length := by
  unfold oddV
  have hp : ((List.range (l.length - 2)).filter (fun j => decide (2 ≤ j) && decide (valI ps (dot l) (j + 1) % 2 = 1))).Pairwise (· < ·) := List.Pairwise.filter _ List.pairwise_lt_range
  have hm : ∀ j ∈ (List.range (l.length - 2)).filter (fun j => decide (2 ≤ j) && decide (valI ps (dot l) (j + 1) % 2 = 1)), 2 ≤ j ∧ j < l.length - 2 := by
    intro j hj
    obtain ⟨h1, h2⟩ := List.mem_filter.1 hj
    simp only [Bool.and_eq_true, decide_eq_true_eq] at h2
    exact ⟨h2.1, List.mem_range.1 h1⟩
  generalize (List.range (l.length - 2)).filter (fun j => decide (2 ≤ j) && decide (valI ps (dot l) (j + 1) % 2 = 1)) = q at *
  intro j hj
  have hj' : j < q.length := by simpa using hj
  have h1 := hm _ (List.getElem_mem hj')
  simp only [List.getElem_map]
  refine ⟨?_, by omega⟩
  split
  · omega
  · rename_i hj0
    have := List.pairwise_iff_getElem.1 hp (j - 1) j (by omega) hj' (by omega)
    omega
theorem ptV_rise {ps xs : List Bs} {l : Bs} (h : wordB l = true → ∀ x ∈ xs, bare x ≠ low l) : Rise (ptV ps xs l) l.length := by
  unfold ptV
  cases hw : wordB l with
  | false => intro j hj; simp at hj
  | true =>
    rw [exE_none _ xs rfl (h hw)]
    simp only [if_true, Option.getD_none]
    have := oddV_rise ps (low l)
    rwa [show (low l).length = l.length by simp [low, Lib.toLowerA]] at this
theorem exE_some {u : Bs} {d : List Int} : ∀ (n : Nat) (xs : List Bs), xs.length = n → exE xs u = some d → ∃ x ∈ xs, excW x = u ∧ d = excP x
  | 0, xs, hn, h => by
    obtain rfl : xs = [] := List.eq_nil_of_length_eq_zero hn
    cases h
  | n + 1, xs, hn, h => by
    have hne : xs ≠ [] := by intro e; subst e; simp at hn
    obtain ⟨ys, x, rfl⟩ : ∃ ys x, xs = ys ++ [x] := ⟨xs.dropLast, xs.getLast hne, (List.dropLast_concat_getLast hne).symm⟩
    rw [exE_snoc] at h
    unfold setV at h
    by_cases e : u = excW x
    · rw [if_pos e] at h
      cases h
      exact ⟨x, by simp, e.symm, rfl⟩
    · rw [if_neg e] at h
      obtain ⟨y, h1, h2⟩ := exE_some n ys (by simpa using hn) h
      exact ⟨y, by simp [h1], h2⟩
theorem ptV_len {ps xs : List Bs} {l : Bs} (hx : ∀ x ∈ xs, x.length ≤ 200) : (ptV ps xs l).length ≤ 1000 := by
  unfold ptV
  cases hw : wordB l with
  | false => simp
  | true =>
    obtain ⟨_, h2, _⟩ := wordB_parts hw
    simp only [if_true]
    cases he : exE xs (low l) with
    | some d =>
      obtain ⟨x, h3, _, rfl⟩ := exE_some _ xs rfl he
      have := plTo_len (parts x) (parts x).length
      have := parts_cnt x
      have := hx x h3
      simp only [Option.getD_some]
      unfold excP
      omega
    | none =>
      simp only [Option.getD_none]
      unfold oddV
      rw [List.length_map]
      have h4 := List.length_filter_le (fun j => decide (2 ≤ j) && decide (valI ps (dot (low l)) (j + 1) % 2 = 1)) (List.range ((low l).length - 2))
      rw [List.length_range] at h4
      have : (low l).length = l.length := by simp [low, Lib.toLowerA]
      omega
end Go.Proofs.YtfblhpkndfbhgaaDoor
