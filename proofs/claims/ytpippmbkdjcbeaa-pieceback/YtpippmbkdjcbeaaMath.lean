/-
  What is proved here: plain facts on lists of pieces, cut at two places (no program is named).
-/
import Derived.RangeFuncNested
namespace Go.Proofs.Ytpippmbkdjcbeaa

/-- Where piece i begins. -/
def start (rs : List (List UInt8)) (i : Nat) : Nat := (rs.take i).flatten.length

theorem start_succ (rs : List (List UInt8)) {k : Nat} (h : k < rs.length) : start rs (k + 1) = start rs k + rs[k].length := by
  unfold start; rw [List.take_succ_eq_append_getElem h, List.flatten_append, List.length_append]; simp only [List.flatten_cons, List.flatten_nil, List.append_nil]
theorem start_le (rs : List (List UInt8)) (k : Nat) : start rs k ≤ rs.flatten.length := by
  unfold start
  conv => rhs; rw [← List.take_append_drop k rs, List.flatten_append, List.length_append]
  exact Nat.le_add_right _ _
theorem start_all (rs : List (List UInt8)) : start rs rs.length = rs.flatten.length := by unfold start; rw [List.take_length]

/-- What a piece that begins at s has between f and t. -/
def cut1 (s f t : Nat) (r : List UInt8) : List UInt8 := (r.take (t - s)).drop (f - s)

/-- Does it have a byte there? -/
def hasB (s f t : Nat) (r : List UInt8) : Bool := decide (f - s < min (t - s) r.length)

/-- What pieces have between f and t, each part with the place where it begins. -/
def parts (s f t : Nat) : List (List UInt8) → List (Nat × List UInt8)
  | [] => []
  | r :: rs => (if hasB s f t r then [(s + (f - s), cut1 s f t r)] else []) ++ parts (s + r.length) f t rs

theorem parts_append (f t : Nat) : ∀ (xs ys : List (List UInt8)) (s : Nat), parts s f t (xs ++ ys) = parts s f t xs ++ parts (s + xs.flatten.length) f t ys
  | [], ys, s => by simp [parts]
  | x :: xs, ys, s => by
    simp only [List.cons_append, parts, parts_append f t xs ys, List.flatten_cons, List.length_append, List.append_assoc, Nat.add_assoc]

/-- .. of the first i pieces. -/
def ptake (f t : Nat) (rs : List (List UInt8)) (i : Nat) : List (Nat × List UInt8) := parts 0 f t (rs.take i)
def cnt (f t : Nat) (rs : List (List UInt8)) (i : Nat) : Nat := (ptake f t rs i).length

theorem ptake_zero (f t : Nat) (rs : List (List UInt8)) : ptake f t rs 0 = [] := rfl
theorem ptake_all (f t : Nat) (rs : List (List UInt8)) : ptake f t rs rs.length = parts 0 f t rs := by unfold ptake; rw [List.take_length]
theorem ptake_succ (f t : Nat) (rs : List (List UInt8)) {i : Nat} (h : i < rs.length) :
    ptake f t rs (i + 1) = ptake f t rs i ++ (if hasB (start rs i) f t rs[i] then [(start rs i + (f - start rs i), cut1 (start rs i) f t rs[i])] else []) := by
  unfold ptake
  rw [List.take_succ_eq_append_getElem h, parts_append]
  simp only [parts, List.append_nil, Nat.zero_add]
  rfl
theorem ptake_split (f t : Nat) (rs : List (List UInt8)) (i : Nat) : ∃ ys, parts 0 f t rs = ptake f t rs i ++ ys := by
  refine ⟨parts (start rs i) f t (rs.drop i), ?_⟩
  conv => lhs; rw [← List.take_append_drop i rs]
  rw [parts_append, Nat.zero_add]; rfl
theorem cnt_yes (f t : Nat) (rs : List (List UInt8)) {i : Nat} (h : i < rs.length) (hb : hasB (start rs i) f t rs[i] = true) :
    cnt f t rs (i + 1) = cnt f t rs i + 1 ∧ (parts 0 f t rs)[cnt f t rs i]? = some (start rs i + (f - start rs i), cut1 (start rs i) f t rs[i]) := by
  have e := ptake_succ f t rs h
  rw [if_pos hb] at e
  refine ⟨by unfold cnt; rw [e]; simp, ?_⟩
  obtain ⟨ys, hy⟩ := ptake_split f t rs (i + 1)
  rw [hy, e]
  unfold cnt
  simp
theorem cnt_no (f t : Nat) (rs : List (List UInt8)) {i : Nat} (h : i < rs.length) (hb : hasB (start rs i) f t rs[i] = false) : cnt f t rs (i + 1) = cnt f t rs i := by
  have e := ptake_succ f t rs h
  rw [hb] at e
  unfold cnt; rw [e]; simp
theorem cnt_all (f t : Nat) (rs : List (List UInt8)) : cnt f t rs rs.length = (parts 0 f t rs).length := by unfold cnt; rw [ptake_all]
theorem cnt_zero (f t : Nat) (rs : List (List UInt8)) : cnt f t rs 0 = 0 := rfl
theorem cnt_lt (f t : Nat) (rs : List (List UInt8)) {i : Nat} (h : i < rs.length) (hb : hasB (start rs i) f t rs[i] = true) : cnt f t rs i < (parts 0 f t rs).length :=
  (List.getElem?_eq_some_iff.1 (cnt_yes f t rs h hb).2).1

/-- The pieces between two places. -/
def cutRuns (f t : Nat) (rs : List (List UInt8)) : List (List UInt8) := (parts 0 f t rs).map Prod.snd

theorem parts_flatten (f t : Nat) : ∀ (rs : List (List UInt8)) (s : Nat), ((parts s f t rs).map Prod.snd).flatten = (rs.flatten.take (t - s)).drop (f - s)
  | [], s => by simp [parts]
  | r :: rs, s => by
    have ih := parts_flatten f t rs (s + r.length)
    simp only [parts, List.map_append, List.flatten_append, ih, List.flatten_cons, List.take_append, List.drop_append, List.length_take]
    have h1 : t - s - r.length = t - (s + r.length) := by omega
    rw [h1]
    congr 1
    · by_cases hb : hasB s f t r = true
      · rw [if_pos hb]; simp [cut1]
      · rw [if_neg hb]
        have : ¬ f - s < min (t - s) r.length := by simpa [hasB] using hb
        symm
        simp only [List.map_nil, List.flatten_nil]
        apply List.drop_eq_nil_of_le
        rw [List.length_take]; omega
    · by_cases hc : t - s ≤ r.length
      · have : t - (s + r.length) = 0 := by omega
        rw [this]; simp
      · congr 1; omega

theorem cutRuns_flatten (f t : Nat) (rs : List (List UInt8)) : (cutRuns f t rs).flatten = (rs.flatten.take t).drop f := by
  unfold cutRuns; rw [parts_flatten]; simp

theorem parts_full (f t : Nat) : ∀ (rs : List (List UInt8)) (s : Nat), ∀ x ∈ parts s f t rs, x.2 ≠ []
  | [], _ => by simp [parts]
  | r :: rs, s => by
    intro x hx
    simp only [parts, List.mem_append] at hx
    rcases hx with hx | hx
    · by_cases hb : hasB s f t r = true
      · rw [if_pos hb] at hx
        simp only [List.mem_singleton] at hx
        subst hx
        have : f - s < min (t - s) r.length := by simpa [hasB] using hb
        intro he
        have := congrArg List.length he
        simp [cut1] at this
        omega
      · rw [if_neg hb] at hx; cases hx
    · exact parts_full f t rs _ x hx

theorem cutRuns_full (f t : Nat) (rs : List (List UInt8)) : ∀ r ∈ cutRuns f t rs, r ≠ [] := by
  intro r hr
  obtain ⟨x, hx, rfl⟩ := List.mem_map.1 hr
  exact parts_full f t rs 0 x hx

theorem len_le_flatten : ∀ (rs : List (List UInt8)), (∀ r ∈ rs, r ≠ []) → rs.length ≤ rs.flatten.length
  | [], _ => by simp
  | r :: rs, h => by
    have := len_le_flatten rs (fun x hx => h x (List.mem_cons_of_mem _ hx))
    have : 0 < r.length := List.length_pos_iff.2 (h r List.mem_cons_self)
    simp only [List.length_cons, List.flatten_cons, List.length_append]
    omega

end Go.Proofs.Ytpippmbkdjcbeaa
