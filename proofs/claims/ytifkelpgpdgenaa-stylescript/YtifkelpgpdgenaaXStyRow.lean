/-
  What is proved here: lists of styles that rise; a style that is laid into such a list (for StyleScript; no program is named).
  What is proved here: rows of the document's own styles; what its Clone answers (for StyleScript).
-/
import Derived.Test.YtifkelpgpdgenaaXRefF
namespace Go.Proofs.Ytifkelpgpdgenaa
open Go.RowKit Go.Shelf

/-- One name is ahead of another. -/
def ltS (a b : Str) : Prop := a.data.toList < b.data.toList
instance (a b : Str) : Decidable (ltS a b) := inferInstanceAs (Decidable (a.data.toList < b.data.toList))
theorem ltS_trans {a b c : Str} (h : ltS a b) (h' : ltS b c) : ltS a c := List.lt_trans h h'
theorem ltS_irrefl (a : Str) : ¬ ltS a a := List.lt_irrefl _
theorem ltS_ne {a b : Str} (h : ltS a b) : a ≠ b := fun e => ltS_irrefl b (e ▸ h)
theorem str_ext {a b : Str} (h : a.data.toList = b.data.toList) : a = b := by
  obtain ⟨⟨x⟩⟩ := a; obtain ⟨⟨y⟩⟩ := b
  simp at h; rw [h]
theorem ltS_or {a b : Str} (h : a ≠ b) : ltS a b ∨ ltS b a := by
  by_cases h1 : ltS a b
  · exact .inl h1
  · by_cases h2 : ltS b a
    · exact .inr h2
    · exact absurd (str_ext (List.le_antisymm (List.not_lt.1 h2) (List.not_lt.1 h1))) h

abbrev Stys := List (Str × Sty)
def SortedT (T : Stys) : Prop := T.Pairwise fun x y => ltS x.1 y.1
theorem SortedT.uniq {T : Stys} (h : SortedT T) {x y : Str × Sty} (hx : x ∈ T) (hy : y ∈ T) (e : x.1 = y.1) : x = y := by
  induction T with
  | nil => cases hx
  | cons z T ih =>
    obtain ⟨h1, h2⟩ := List.pairwise_cons.1 h
    rcases List.mem_cons.1 hx with rfl | hx'
    · rcases List.mem_cons.1 hy with rfl | hy'
      · rfl
      · exact absurd e (ltS_ne (h1 _ hy'))
    · rcases List.mem_cons.1 hy with rfl | hy'
      · exact absurd e.symm (ltS_ne (h1 _ hx'))
      · exact ih h2 hx' hy'
theorem shOf_iff {T : Stys} (h : SortedT T) {s : Str} {y : Sty} : shOf T s = some y ↔ (s, y) ∈ T := by
  classical
  unfold shOf
  constructor
  · intro e
    obtain ⟨x, hx, rfl⟩ := Option.map_eq_some_iff.1 e
    have h1 := List.mem_of_find?_eq_some hx
    have h2 := List.find?_some hx
    have h3 : x.1 = s := by simpa using h2
    rw [← h3]; exact h1
  · intro hm
    cases hf : T.find? fun x => decide (x.1 = s) with
    | none =>
      have := List.find?_eq_none.1 hf _ hm
      simp at this
    | some x =>
      have h1 := List.mem_of_find?_eq_some hf
      have h3 : x.1 = s := by simpa using List.find?_some hf
      have := h.uniq h1 hm h3
      rw [this]; rfl

/-- The list with a style laid in. -/
def putT (T : Stys) (x : Str × Sty) : Stys := T.filter (fun y => decide (ltS y.1 x.1)) ++ x :: T.filter (fun y => decide (ltS x.1 y.1))
/-- What has been gone through, and whether the style is in. -/
def stepT (x : Str × Sty) (s : Stys × Bool) (y : Str × Sty) : Stys × Bool :=
  if y.1 = x.1 then s else if s.2 = false ∧ ltS x.1 y.1 then (s.1 ++ [x] ++ [y], true) else (s.1 ++ [y], s.2)
def walkT (x : Str × Sty) (T : Stys) : Stys × Bool := T.foldl (stepT x) ([], false)
def endT (x : Str × Sty) (s : Stys × Bool) : Stys := if s.2 then s.1 else s.1 ++ [x]

theorem fold_in (x : Str × Sty) : ∀ (T : Stys) (acc : Stys), (∀ y ∈ T, ltS x.1 y.1) → T.foldl (stepT x) (acc, true) = (acc ++ T, true)
  | [], acc, _ => by simp
  | y :: T, acc, h => by
    have hy := h y (by simp)
    rw [List.foldl_cons]
    have : stepT x (acc, true) y = (acc ++ [y], true) := by
      unfold stepT
      rw [if_neg (fun e => ltS_ne hy e.symm), if_neg (by simp)]
    rw [this, fold_in x T _ fun z hz => h z (by simp [hz])]
    simp
theorem filter_hi {x : Str × Sty} {T : Stys} (h : ∀ y ∈ T, ltS x.1 y.1) : T.filter (fun y => decide (ltS x.1 y.1)) = T ∧ T.filter (fun y => decide (ltS y.1 x.1)) = [] := by
  constructor
  · exact List.filter_eq_self.2 fun y hy => by simpa using h y hy
  · refine List.filter_eq_nil_iff.2 fun y hy => ?_
    simp only [decide_eq_true_eq]
    exact fun h' => ltS_irrefl _ (ltS_trans (h y hy) h')
theorem fold_out (x : Str × Sty) : ∀ (T : Stys) (acc : Stys), SortedT T → endT x (T.foldl (stepT x) (acc, false)) = acc ++ putT T x
  | [], acc, _ => by simp [endT, putT]
  | y :: T, acc, h => by
    obtain ⟨h1, h2⟩ := List.pairwise_cons.1 h
    rw [List.foldl_cons]
    by_cases e : y.1 = x.1
    · have hh : ∀ z ∈ T, ltS x.1 z.1 := fun z hz => e ▸ h1 z hz
      have : stepT x (acc, false) y = (acc, false) := by unfold stepT; rw [if_pos e]
      rw [this, fold_out x T acc h2]
      unfold putT
      simp [e, ltS_irrefl]
    · by_cases hl : ltS x.1 y.1
      · have hh : ∀ z ∈ y :: T, ltS x.1 z.1 := fun z hz => by
          rcases List.mem_cons.1 hz with rfl | hz
          · exact hl
          · exact ltS_trans hl (h1 z hz)
        have : stepT x (acc, false) y = (acc ++ [x] ++ [y], true) := by unfold stepT; rw [if_neg e, if_pos ⟨rfl, hl⟩]
        rw [this, fold_in x T _ fun z hz => hh z (by simp [hz])]
        unfold putT endT
        rw [(filter_hi hh).1, (filter_hi hh).2]
        simp
      · have hg : ltS y.1 x.1 := (ltS_or e).resolve_right hl
        have : stepT x (acc, false) y = (acc ++ [y], false) := by unfold stepT; rw [if_neg e, if_neg (fun h => hl h.2)]
        rw [this, fold_out x T _ h2]
        unfold putT
        simp [hg, hl]
theorem walk_end (x : Str × Sty) {T : Stys} (h : SortedT T) : endT x (walkT x T) = putT T x := by
  have := fold_out x T [] h
  simpa [walkT] using this
theorem walk_step (x : Str × Sty) {T : Stys} {k : Nat} (h : k < T.length) : walkT x (T.take (k + 1)) = stepT x (walkT x (T.take k)) T[k] := by
  unfold walkT
  rw [List.take_succ_eq_append_getElem h, List.foldl_append]; rfl

theorem mem_putT {T : Stys} (x z : Str × Sty) : z ∈ putT T x ↔ z = x ∨ (z ∈ T ∧ z.1 ≠ x.1) := by
  unfold putT
  simp only [List.mem_append, List.mem_cons, List.mem_filter, decide_eq_true_eq]
  constructor
  · rintro (⟨h1, h2⟩ | rfl | ⟨h1, h2⟩)
    · exact .inr ⟨h1, ltS_ne h2⟩
    · exact .inl rfl
    · exact .inr ⟨h1, fun e => ltS_ne h2 e.symm⟩
  · rintro (rfl | ⟨h1, h2⟩)
    · exact .inr (.inl rfl)
    · rcases ltS_or h2 with h | h
      · exact .inl ⟨h1, h⟩
      · exact .inr (.inr ⟨h1, h⟩)
theorem sorted_putT {T : Stys} (h : SortedT T) (x : Str × Sty) : SortedT (putT T x) := by
  unfold putT SortedT
  rw [List.pairwise_append]
  refine ⟨h.filter _, ?_, ?_⟩
  · rw [List.pairwise_cons]
    exact ⟨fun y hy => by simpa using (List.mem_filter.1 hy).2, h.filter _⟩
  · intro a ha b hb
    have h1 : ltS a.1 x.1 := by simpa using (List.mem_filter.1 ha).2
    rcases List.mem_cons.1 hb with rfl | hb
    · exact h1
    · exact ltS_trans h1 (by simpa using (List.mem_filter.1 hb).2)
theorem shOf_putT {T : Stys} (h : SortedT T) (x : Str × Sty) : shOf (putT T x) = upd (shOf T) x.1 x.2 := by
  funext s
  apply Option.ext
  intro y
  rw [shOf_iff (sorted_putT h x), mem_putT]
  by_cases hs : s = x.1
  · subst hs
    rw [upd_same]
    constructor
    · rintro (e | ⟨_, e⟩)
      · rw [← e]
      · exact absurd rfl e
    · intro e
      cases e; exact .inl rfl
  · rw [upd_other _ _ hs, shOf_iff h]
    constructor
    · rintro (e | ⟨e, _⟩)
      · exact absurd (by rw [← e]) hs
      · exact e
    · exact fun e => .inr ⟨e, hs⟩
theorem sorted_erase {T : Stys} (h : SortedT T) (i : Nat) : SortedT (T.eraseIdx i) := List.Pairwise.sublist (List.eraseIdx_sublist T i) h
end Go.Proofs.Ytifkelpgpdgenaa

namespace Go.Proofs.Ytifkelpgpdgenaa
open Go.RowKit Go.Shelf

variable {X : Nat → Prop}

/-- A style, and where its settings lie. -/
abbrev Ent := (Str × Sty) × (Option Addr × Nat)
def entS (e : Ent) : Value := .slice e.2.1 e.1.2.2.length e.2.2
def stC (e : Ent) : List Value := [.string e.1.1, .string e.1.2.1, entS e]
def stRow (R : List Ent) : List Value := R.flatMap stC
theorem stRow_length (R : List Ent) : (stRow R).length = R.length * 3 := by
  induction R with
  | nil => rfl
  | cons p r ih => simp [stRow, List.flatMap_cons, stC] at ih ⊢; omega
theorem stRow_append (R R' : List Ent) : stRow (R ++ R') = stRow R ++ stRow R' := by simp [stRow]
theorem stRow_get (R : List Ent) {i : Nat} (h : i < R.length) (j : Nat) (hj : j < 3) : (stRow R)[i * 3 + j]? = (stC R[i])[j]? := by
  have hs : R = R.take i ++ (R[i] :: R.drop (i + 1)) := by simp
  conv => lhs; rw [hs]
  have ha : stRow (R.take i ++ (R[i] :: R.drop (i + 1))) = stRow (R.take i) ++ (stC R[i] ++ stRow (R.drop (i + 1))) := by unfold stRow; rw [List.flatMap_append, List.flatMap_cons]
  have hl : (stRow (R.take i)).length = i * 3 := by rw [stRow_length, List.length_take, Nat.min_eq_left (by omega)]
  rw [ha, List.getElem?_append_right (by omega), hl, List.getElem?_append_left (by simp [stC]; omega)]
  congr 1; omega
theorem stRow_one (R : List Ent) : ∀ u ∈ stRow R, u.oneCell' = true := by
  intro u hu
  obtain ⟨p, _, hp⟩ := List.mem_flatMap.1 hu
  simp [stC, entS] at hp
  rcases hp with rfl | rfl | rfl <;> rfl

/-- The settings of all of them are there, clear of some blocks. -/
def EntsOk (X : Nat → Prop) (W : World) (R : List Ent) : Prop := ∀ e ∈ R, SetsX X W (entS e) e.1.2.2
theorem EntsOk.below {W W' : World} {R : List Ent} (h : EntsOk X W R) (hb : Below W.heap.size W W') : EntsOk X W' R := fun e he => ⟨(h e he).toSetsAt.below hb, (h e he).av⟩
theorem EntsOk.append {W : World} {R R' : List Ent} (h : EntsOk X W R) (h' : EntsOk X W R') : EntsOk X W (R ++ R') := fun e he => by
  rcases List.mem_append.1 he with he | he
  · exact h e he
  · exact h' e he

theorem StylesAt.row {W : World} {v : Value} {T : Stys} (h : StylesAt X W v T) : ∃ R : List Ent, R.map (·.1) = T ∧ EntsOk X W R ∧ ∀ W', Below W.heap.size W W' → Srcs W' 3 v R.length (stRow R) := by
  obtain ⟨a, cap, rfl, h2⟩ := h.ex
  rcases h2 with rfl | ⟨b, o, rfl, hlt, hnb, hc⟩
  · refine ⟨[], rfl, fun e he => (by cases he), fun W' _ => ?_⟩
    refine ⟨rfl, fun u hu => (by simp [stRow] at hu), ?_⟩
    cases a with
    | none => exact .inl ⟨rfl, cap, rfl⟩
    | some a => exact .inr ⟨a, cap, rfl, fun j u hu => by simp [stRow] at hu⟩
  · have key : ∀ i : Fin T.length, ∃ p : Option Addr × Nat, W.cell? ⟨b, o + i.1 * 3 + 2, none⟩ = some (.slice p.1 T[i.1].2.2.length p.2) ∧ SetsX X W (.slice p.1 T[i.1].2.2.length p.2) T[i.1].2.2 := fun i => by
      obtain ⟨_, _, a', cap', c2, hs⟩ := hc i.1 i.2
      exact ⟨(a', cap'), c2, hs⟩
    obtain ⟨f, hf⟩ := Classical.axiomOfChoice key
    refine ⟨List.ofFn fun i : Fin T.length => (T[i.1], f i), ?_, ?_, fun W' hW' => ?_⟩
    · apply List.ext_getElem (by simp)
      intro i h1 h2
      simp
    · intro e he
      obtain ⟨i, rfl⟩ := List.mem_ofFn.1 he
      exact (hf i).2
    · refine ⟨stRow_length _, stRow_one _, .inr ⟨⟨b, o, none⟩, cap, by simp, fun j u hu => ?_⟩⟩
      have hj : j < T.length * 3 := by
        have := (List.getElem?_eq_some_iff.1 hu).1
        rw [stRow_length] at this; simpa using this
      have hi : j / 3 < T.length := by omega
      have hg := stRow_get (List.ofFn fun i : Fin T.length => (T[i.1], f i)) (i := j / 3) (by simpa using hi) (j % 3) (by omega)
      have hjj : j / 3 * 3 + j % 3 = j := by omega
      rw [hjj, hu] at hg
      obtain ⟨c0, c1, _⟩ := hc (j / 3) hi
      have c2 := (hf ⟨j / 3, hi⟩).1
      replace c0 := (hW'.cell hlt).trans c0; replace c1 := (hW'.cell hlt).trans c1; replace c2 := (hW'.cell hlt).trans c2
      rw [addr_add]
      have h4 : j % 3 = 0 ∨ j % 3 = 1 ∨ j % 3 = 2 := by omega
      rcases h4 with h4 | h4 | h4 <;> rw [h4] at hg <;> simp [stC, entS] at hg <;> subst hg
      · rw [← c0]; congr 2; omega
      · rw [← c1]; congr 2; omega
      · rw [← c2]; congr 2; simp only; omega

theorem styles_of_row {W : World} {base : Nat} {v : Value} {R : List Ent} (h : W.ownsRow base 88 3 v R.length (stRow R)) (hf : R.length ≤ 9223372036854775807) (hb : ∀ b, X b → b < base) (hR : EntsOk X W R) : StylesAt X W v (R.map (·.1)) := by
  refine ⟨?_, by simpa using hf, ?_⟩
  rotate_left
  · intro a l c e
    rcases h.2 with ⟨rfl, hn⟩ | ⟨g, cap, cur, rfl, _, _, r, _⟩
    · cases e; exact Nat.le_refl _
    · cases e; exact r
  rcases h.2 with ⟨rfl, hn⟩ | ⟨g, cap, cur, rfl, hb', hg, r⟩
  · have : R = [] := List.eq_nil_of_length_eq_zero hn
    subst this
    exact ⟨none, 0, rfl, .inl rfl⟩
  · refine ⟨_, cap, by rw [List.length_map], .inr ⟨g, 0, rfl, (Array.getElem?_eq_some_iff.1 hg).1, fun hx => absurd (hb g hx) (by omega), fun i hi => ?_⟩⟩
    have hi' : i < R.length := by simpa using hi
    have hc : ∀ j u, (stRow R)[j]? = some u → W.cell? ⟨g, j, none⟩ = some u := fun j u hu => by have := h.cells (g := g) rfl j u hu; rwa [addr_add0] at this
    have he := hR R[i] (List.getElem_mem hi')
    simp only [Nat.zero_add, List.getElem_map]
    exact ⟨hc _ _ (stRow_get R hi' 0 (by omega)), hc _ _ (stRow_get R hi' 1 (by omega)), R[i].2.1, R[i].2.2, hc _ _ (stRow_get R hi' 2 (by omega)), he⟩

theorem info88 : (Try.prog.info? 88).map (fun i => (i.zero, i.size, i.bytes)) = some (some (.agg #[.string ⟨#[]⟩, .string ⟨#[]⟩, .slice none 0 0]), 3, 56) := by kernel_rfl

theorem slice_form {W : World} {base : Nat} {e : TypeId} {size n : Nat} {v : Value} {xs : List Value} (h : W.ownsRow base e size v n xs) : ∃ a cap, v = .slice a n cap := by
  rcases h.2 with ⟨rfl, rfl⟩ | ⟨g, cap, cur, rfl, _⟩
  · exact ⟨none, 0, rfl⟩
  · exact ⟨_, cap, rfl⟩

set_option maxRecDepth 100000 in
set_option maxHeartbeats 2000000 in
theorem refClone_any (g : Nat) (T : Stys) (hT : T.length ≤ 64) (w : World) (h : RefAt X w g T) (hXL : XL X w) :
    Calls Try.prog 22 #[.pointer (some ⟨g, 0, none⟩)] w fun e w' => ∃ g2, e = .returned (.pointer (some ⟨g2, 0, none⟩)) ∧ w.heap.size ≤ g2 ∧ RefAt X w' g2 T ∧ Below w.heap.size w w' := by
  obtain ⟨i0, hi, hz0, hz1, hz2⟩ := info_parts info88
  have hB := (Below.refl w.heap.size w).alloc (Nat.le_refl _) (.cells #[] 88)
  obtain ⟨v, hv, hS⟩ := h.ex
  obtain ⟨R, hRT, hok, hsrc0⟩ := hS.row
  have hlen : R.length = T.length := by rw [← hRT, List.length_map]
  have dv := (hB.cell h.lt).trans hv
  have hsrc' : Hid _ := hsrc0 _ hB
  have hok' : Hid _ := hok
  replace hXL : Hid _ := hXL
  clear hsrc0 h hS hok
  go_enter Try.func22, Try.ntmps22
  go_wp2_with (at_builtin; refine wpList_append_any _ rfl _ _ 48 rfl w.heap.size 88 i0 _ 3 56 Try.underlying48 hi hz0 hz1 hz2 rfl (by decide) _ 0 [] rfl (ownsRow_lit w 88 3 _ (Nat.le_refl _)) R.length (stRow R) _ rfl hsrc'.out (by unfold maxLen; omega) (by omega) (by simp) ?_; intro v' w2 hown hgrow; rw [Nat.zero_add, List.nil_append] at hown; obtain ⟨a2, cp2, rfl⟩ := slice_form hown)
  have hB2 : Below w.heap.size w w2 := below_grown hB (ownsRow_lit w 88 3 _ (Nat.le_refl _)) (Nat.le_refl _) (Nat.le_refl _) hgrow
  have hok2 : EntsOk X w2 R := EntsOk.below hok'.out hB2
  have hA := (Below.refl w2.heap.size w2).alloc (Nat.le_refl _) (Obj.cells #[.slice a2 R.length cp2] 50)
  have hst : StylesAt X (w2.alloc (.cells #[.slice a2 R.length cp2] 50)) (.slice a2 R.length cp2) T := by
    rw [← hRT]
    exact (styles_of_row hown (by omega) hXL.out hok2).below hA
  have hx := heap_new w2 (.cells #[.slice a2 R.length cp2] 50)
  have hfin : Hid (RefAt X (w2.alloc (.cells #[.slice a2 R.length cp2] 50)) w2.heap.size T ∧ Below w.heap.size w (w2.alloc (.cells #[.slice a2 R.length cp2] 50))) := ⟨⟨⟨_, by rw [Lib.cell_of_heap hx]; rfl, hst⟩, by simp, fun hxx => by have := hXL.out _ hxx; have := hB2.size; omega, _, hx⟩, hB2.trans (hA.mono hB2.size)⟩
  have hs2 := hB2.size
  clear hst hown hgrow hsrc' hok2 hok' hx
  try go_wp2_with fail
  go_ret
  rw [hlen] at hfin
  exact ⟨w2.heap.size, rfl, hs2, hfin.out.1, hfin.out.2⟩
end Go.Proofs.Ytifkelpgpdgenaa
