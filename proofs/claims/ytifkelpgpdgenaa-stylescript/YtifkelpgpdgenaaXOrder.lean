/-
  What is proved here: lists of styles that rise; a style that is laid into such a list (for StyleScript; no program is named).
-/
import Derived.Test.YtifkelpgpdgenaaXRefF
namespace Go.Proofs.Ytifkelpgpdgenaa
open Go.RowKit Go.Shelf

/-- One name is ahead of another. -/
def ltS (a b : Str) : Prop := a.data.toList < b.data.toList
instance (a b : Str) : Decidable (ltS a b) := inferInstanceAs (Decidable (a.data.toList < b.data.toList))
theorem ltS_trans {a b c : Str} (h : ltS a b) (h' : ltS b c) : ltS a c := List.lt_trans h h'
theorem ltS_irrefl (a : Str) : ¬ ltS a a := List.lt_irrefl _
theorem ltS_ne {a b : Str} (h : ltS a b) : a ≠ b := fun e => ltS_irrefl b (e ▸ h)
theorem str_ext {a b : Str} (h : a.data.toList = b.data.toList) : a = b := by
  obtain ⟨⟨x⟩⟩ := a; obtain ⟨⟨y⟩⟩ := b
  simp at h; rw [h]
theorem ltS_or {a b : Str} (h : a ≠ b) : ltS a b ∨ ltS b a := by
  by_cases h1 : ltS a b
  · exact .inl h1
  · by_cases h2 : ltS b a
    · exact .inr h2
    · exact absurd (str_ext (List.le_antisymm (List.not_lt.1 h2) (List.not_lt.1 h1))) h

abbrev Stys := List (Str × Sty)
def SortedT (T : Stys) : Prop := T.Pairwise fun x y => ltS x.1 y.1
theorem SortedT.uniq {T : Stys} (h : SortedT T) {x y : Str × Sty} (hx : x ∈ T) (hy : y ∈ T) (e : x.1 = y.1) : x = y := by
  induction T with
  | nil => cases hx
  | cons z T ih =>
    obtain ⟨h1, h2⟩ := List.pairwise_cons.1 h
    rcases List.mem_cons.1 hx with rfl | hx'
    · rcases List.mem_cons.1 hy with rfl | hy'
      · rfl
      · exact absurd e (ltS_ne (h1 _ hy'))
    · rcases List.mem_cons.1 hy with rfl | hy'
      · exact absurd e.symm (ltS_ne (h1 _ hx'))
      · exact ih h2 hx' hy'
theorem shOf_iff {T : Stys} (h : SortedT T) {s : Str} {y : Sty} : shOf T s = some y ↔ (s, y) ∈ T := by
  classical
  unfold shOf
  constructor
  · intro e
    obtain ⟨x, hx, rfl⟩ := Option.map_eq_some_iff.1 e
    have h1 := List.mem_of_find?_eq_some hx
    have h2 := List.find?_some hx
    have h3 : x.1 = s := by simpa using h2
    rw [← h3]; exact h1
  · intro hm
    cases hf : T.find? fun x => decide (x.1 = s) with
    | none =>
      have := List.find?_eq_none.1 hf _ hm
      simp at this
    | some x =>
      have h1 := List.mem_of_find?_eq_some hf
      have h3 : x.1 = s := by simpa using List.find?_some hf
      have := h.uniq h1 hm h3
      rw [this]; rfl

/-- The list with a style laid in. -/
def putT (T : Stys) (x : Str × Sty) : Stys := T.filter (fun y => decide (ltS y.1 x.1)) ++ x :: T.filter (fun y => decide (ltS x.1 y.1))
/-- What has been gone through, and whether the style is in. -/
def stepT (x : Str × Sty) (s : Stys × Bool) (y : Str × Sty) : Stys × Bool :=
  if y.1 = x.1 then s else if s.2 = false ∧ ltS x.1 y.1 then (s.1 ++ [x] ++ [y], true) else (s.1 ++ [y], s.2)
def walkT (x : Str × Sty) (T : Stys) : Stys × Bool := T.foldl (stepT x) ([], false)
def endT (x : Str × Sty) (s : Stys × Bool) : Stys := if s.2 then s.1 else s.1 ++ [x]

theorem fold_in (x : Str × Sty) : ∀ (T : Stys) (acc : Stys), (∀ y ∈ T, ltS x.1 y.1) → T.foldl (stepT x) (acc, true) = (acc ++ T, true)
  | [], acc, _ => by simp
  | y :: T, acc, h => by
    have hy := h y (by simp)
    rw [List.foldl_cons]
    have : stepT x (acc, true) y = (acc ++ [y], true) := by
      unfold stepT
      rw [if_neg (fun e => ltS_ne hy e.symm), if_neg (by simp)]
    rw [this, fold_in x T _ fun z hz => h z (by simp [hz])]
    simp
theorem filter_hi {x : Str × Sty} {T : Stys} (h : ∀ y ∈ T, ltS x.1 y.1) : T.filter (fun y => decide (ltS x.1 y.1)) = T ∧ T.filter (fun y => decide (ltS y.1 x.1)) = [] := by
  constructor
  · exact List.filter_eq_self.2 fun y hy => by simpa using h y hy
  · refine List.filter_eq_nil_iff.2 fun y hy => ?_
    simp only [decide_eq_true_eq]
    exact fun h' => ltS_irrefl _ (ltS_trans (h y hy) h')
theorem fold_out (x : Str × Sty) : ∀ (T : Stys) (acc : Stys), SortedT T → endT x (T.foldl (stepT x) (acc, false)) = acc ++ putT T x
  | [], acc, _ => by simp [endT, putT]
  | y :: T, acc, h => by
    obtain ⟨h1, h2⟩ := List.pairwise_cons.1 h
    rw [List.foldl_cons]
    by_cases e : y.1 = x.1
    · have hh : ∀ z ∈ T, ltS x.1 z.1 := fun z hz => e ▸ h1 z hz
      have : stepT x (acc, false) y = (acc, false) := by unfold stepT; rw [if_pos e]
      rw [this, fold_out x T acc h2]
      unfold putT
      simp [e, ltS_irrefl]
    · by_cases hl : ltS x.1 y.1
      · have hh : ∀ z ∈ y :: T, ltS x.1 z.1 := fun z hz => by
          rcases List.mem_cons.1 hz with rfl | hz
          · exact hl
          · exact ltS_trans hl (h1 z hz)
        have : stepT x (acc, false) y = (acc ++ [x] ++ [y], true) := by unfold stepT; rw [if_neg e, if_pos ⟨rfl, hl⟩]
        rw [this, fold_in x T _ fun z hz => hh z (by simp [hz])]
        unfold putT endT
        rw [(filter_hi hh).1, (filter_hi hh).2]
        simp
      · have hg : ltS y.1 x.1 := (ltS_or e).resolve_right hl
        have : stepT x (acc, false) y = (acc ++ [y], false) := by unfold stepT; rw [if_neg e, if_neg (fun h => hl h.2)]
        rw [this, fold_out x T _ h2]
        unfold putT
        simp [hg, hl]
theorem walk_end (x : Str × Sty) {T : Stys} (h : SortedT T) : endT x (walkT x T) = putT T x := by
  have := fold_out x T [] h
  simpa [walkT] using this
theorem walk_step (x : Str × Sty) {T : Stys} {k : Nat} (h : k < T.length) : walkT x (T.take (k + 1)) = stepT x (walkT x (T.take k)) T[k] := by
  unfold walkT
  rw [List.take_succ_eq_append_getElem h, List.foldl_append]; rfl

theorem mem_putT {T : Stys} (x z : Str × Sty) : z ∈ putT T x ↔ z = x ∨ (z ∈ T ∧ z.1 ≠ x.1) := by
  unfold putT
  simp only [List.mem_append, List.mem_cons, List.mem_filter, decide_eq_true_eq]
  constructor
  · rintro (⟨h1, h2⟩ | rfl | ⟨h1, h2⟩)
    · exact .inr ⟨h1, ltS_ne h2⟩
    · exact .inl rfl
    · exact .inr ⟨h1, fun e => ltS_ne h2 e.symm⟩
  · rintro (rfl | ⟨h1, h2⟩)
    · exact .inr (.inl rfl)
    · rcases ltS_or h2 with h | h
      · exact .inl ⟨h1, h⟩
      · exact .inr (.inr ⟨h1, h⟩)
theorem sorted_putT {T : Stys} (h : SortedT T) (x : Str × Sty) : SortedT (putT T x) := by
  unfold putT SortedT
  rw [List.pairwise_append]
  refine ⟨h.filter _, ?_, ?_⟩
  · rw [List.pairwise_cons]
    exact ⟨fun y hy => by simpa using (List.mem_filter.1 hy).2, h.filter _⟩
  · intro a ha b hb
    have h1 : ltS a.1 x.1 := by simpa using (List.mem_filter.1 ha).2
    rcases List.mem_cons.1 hb with rfl | hb
    · exact h1
    · exact ltS_trans h1 (by simpa using (List.mem_filter.1 hb).2)
theorem shOf_putT {T : Stys} (h : SortedT T) (x : Str × Sty) : shOf (putT T x) = upd (shOf T) x.1 x.2 := by
  funext s
  apply Option.ext
  intro y
  rw [shOf_iff (sorted_putT h x), mem_putT]
  by_cases hs : s = x.1
  · subst hs
    rw [upd_same]
    constructor
    · rintro (e | ⟨_, e⟩)
      · rw [← e]
      · exact absurd rfl e
    · intro e
      cases e; exact .inl rfl
  · rw [upd_other _ _ hs, shOf_iff h]
    constructor
    · rintro (e | ⟨e, _⟩)
      · exact absurd (by rw [← e]) hs
      · exact e
    · exact fun e => .inr ⟨e, hs⟩
theorem sorted_erase {T : Stys} (h : SortedT T) (i : Nat) : SortedT (T.eraseIdx i) := List.Pairwise.sublist (List.eraseIdx_sublist T i) h
end Go.Proofs.Ytifkelpgpdgenaa
