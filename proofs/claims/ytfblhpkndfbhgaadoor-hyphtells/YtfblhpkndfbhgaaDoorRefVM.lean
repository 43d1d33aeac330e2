/-
  What is proved here: the greatest digit at a place, as the document gathers it (no function of the program is named).
-/
import Derived.Test.YtfblhpkndfbhgaaDoorFoldM
namespace Go.Proofs.YtfblhpkndfbhgaaDoor

/-- Numbers that are the greatest of what is said. -/
def VI (d : List Int) (S : Nat → Int → Prop) : Prop := ∀ (k : Nat) (h : k < d.length), 0 ≤ d[k] ∧ ∀ v, 0 < v → (v ≤ d[k] ↔ S k v)
theorem VI.cast {d : List Int} {S S' : Nat → Int → Prop} (h : VI d S) (he : ∀ k v, 0 < v → (S k v ↔ S' k v)) : VI d S' := fun k hk => ⟨(h k hk).1, fun v hv => ((h k hk).2 v hv).trans (he k v hv)⟩
theorem VI.zero (n : Nat) {S : Nat → Int → Prop} (hS : ∀ k v, 0 < v → ¬ S k v) : VI (List.replicate n 0) S := fun k hk => by
  rw [List.getElem_replicate]
  exact ⟨Int.le_refl _, fun v hv => ⟨fun h => by omega, fun h => absurd h (hS k v hv)⟩⟩
theorem VI.put {d : List Int} {S : Nat → Int → Prop} (h : VI d S) {k0 : Nat} (hk0 : k0 < d.length) {x : Int} (y : Int) (hy : y = max (d[k0]'hk0) x) : VI (d.set k0 y) (fun k v => S k v ∨ ((k : Int) = (k0 : Int) ∧ v ≤ x)) := fun k hk => by
  have hk' : k < d.length := by simpa using hk
  obtain ⟨h1, h2⟩ := h k hk'
  rw [List.getElem_set]
  by_cases e : k0 = k
  · subst e
    rw [if_pos rfl, hy]
    refine ⟨by omega, fun v hv => ?_⟩
    show v ≤ max (d[k0]'hk0) x ↔ (S k0 v ∨ ((k0 : Int) = (k0 : Int) ∧ v ≤ x))
    rw [← h2 v hv]
    constructor
    · intro hh; by_cases hc : v ≤ d[k0]
      · exact .inl hc
      · exact .inr ⟨rfl, by omega⟩
    · rintro (hh | ⟨-, hh⟩) <;> omega
  · rw [if_neg e]
    refine ⟨h1, fun v hv => ?_⟩
    rw [h2 v hv]
    constructor
    · exact .inl
    · rintro (hh | ⟨hh, -⟩)
      · exact hh
      · exact absurd hh (by omega)
theorem VI.miss {d : List Int} {S : Nat → Int → Prop} (h : VI d S) {kv : Int} (hk : kv < 0 ∨ (d.length : Int) ≤ kv) (x : Int) : VI d (fun k v => S k v ∨ ((k : Int) = kv ∧ v ≤ x)) := fun k hk' => by
  obtain ⟨h1, h2⟩ := h k hk'
  refine ⟨h1, fun v hv => ?_⟩
  rw [h2 v hv]
  constructor
  · exact .inl
  · rintro (hh | ⟨hh, -⟩)
    · exact hh
    · omega
def S0 (ps : List Bs) (text : Bs) (i : Nat) (k : Nat) (v : Int) : Prop := Has (ps.take i) text (k + 1) v text.length
def S1 (ps : List Bs) (text : Bs) (i : Nat) (p : Bs) (at_ : Nat) (k : Nat) (v : Int) : Prop := S0 ps text i k v ∨ ∃ a, a < at_ ∧ ltrs p <+: text.drop a ∧ ∃ x ∈ digs 0 p, a + x.1 = k + 1 ∧ v ≤ x.2
def S2' (ps : List Bs) (text : Bs) (i : Nat) (p : Bs) (at_ j : Nat) (k : Nat) (v : Int) : Prop := S1 ps text i p at_ k v ∨ ∃ x ∈ digs 0 (p.take j), at_ + x.1 = k + 1 ∧ v ≤ x.2
theorem s1_zero {ps : List Bs} {text : Bs} {i : Nat} {p : Bs} (k : Nat) (v : Int) : S0 ps text i k v ↔ S1 ps text i p 0 k v := by
  unfold S1
  constructor
  · exact .inl
  · rintro (h | ⟨a, h, _⟩)
    · exact h
    · omega
theorem s1_skip {ps : List Bs} {text : Bs} {i : Nat} {p : Bs} {m : Nat} (h : ¬ ltrs p <+: text.drop m) (k : Nat) (v : Int) : S1 ps text i p m k v ↔ S1 ps text i p (m + 1) k v := by
  unfold S1
  constructor
  · rintro (h1 | ⟨a, h1, h2⟩)
    · exact .inl h1
    · exact .inr ⟨a, by omega, h2⟩
  · rintro (h1 | ⟨a, h1, h2, h3⟩)
    · exact .inl h1
    · by_cases e : a = m
      · subst e; exact absurd h2 h
      · exact .inr ⟨a, by omega, h2, h3⟩
theorem s2_zero {ps : List Bs} {text : Bs} {i : Nat} {p : Bs} {m : Nat} (k : Nat) (v : Int) : S1 ps text i p m k v ↔ S2' ps text i p m 0 k v := by
  unfold S2'
  rw [List.take_zero, digs]
  simp
theorem digs_take {p : Bs} {j : Nat} (h : j < p.length) : digs 0 (p.take (j + 1)) = digs 0 (p.take j) ++ (if dgt p[j] then [((ltrs (p.take j)).length, (p[j].toNat : Int) - 48)] else []) := by
  rw [List.take_succ_eq_append_getElem h, digs_append, Nat.zero_add]
  congr 1
theorem s2_let {ps : List Bs} {text : Bs} {i : Nat} {p : Bs} {m j : Nat} (h : j < p.length) (hc : dgt p[j] = false) (k : Nat) (v : Int) : S2' ps text i p m j k v ↔ S2' ps text i p m (j + 1) k v := by
  unfold S2'
  rw [digs_take h, if_neg (by rw [hc]; decide), List.append_nil]
theorem s2_dig {ps : List Bs} {text : Bs} {i : Nat} {p : Bs} {m j : Nat} (h : j < p.length) (hc : dgt p[j] = true) (k : Nat) (v : Int) : (S2' ps text i p m j k v ∨ ((k : Int) = (m : Int) - 1 + ((ltrs (p.take j)).length : Int) ∧ v ≤ (p[j].toNat : Int) - 48)) ↔ S2' ps text i p m (j + 1) k v := by
  unfold S2'
  rw [digs_take h, if_pos hc]
  simp only [List.mem_append, List.mem_singleton]
  constructor
  · rintro ((h1 | ⟨x, hx, h1, h2⟩) | ⟨h1, h2⟩)
    · exact .inl h1
    · exact .inr ⟨x, .inl hx, h1, h2⟩
    · exact .inr ⟨_, .inr rfl, by simp; omega, h2⟩
  · rintro (h1 | ⟨x, hx | rfl, h1, h2⟩)
    · exact .inl (.inl h1)
    · exact .inl (.inr ⟨x, hx, h1, h2⟩)
    · exact .inr ⟨by simp at h1; omega, h2⟩
theorem s2_end {ps : List Bs} {text : Bs} {i : Nat} {p : Bs} {m : Nat} (h : ltrs p <+: text.drop m) (k : Nat) (v : Int) : S2' ps text i p m p.length k v ↔ S1 ps text i p (m + 1) k v := by
  unfold S2' S1
  rw [List.take_of_length_le (Nat.le_refl _)]
  constructor
  · rintro ((h1 | ⟨a, h1, h2⟩) | h1)
    · exact .inl h1
    · exact .inr ⟨a, by omega, h2⟩
    · exact .inr ⟨m, by omega, h, h1⟩
  · rintro (h1 | ⟨a, h1, h2, h3⟩)
    · exact .inl (.inl h1)
    · by_cases e : a = m
      · subst e; exact .inr h3
      · exact .inl (.inr ⟨a, by omega, h2, h3⟩)
theorem s1_end {ps : List Bs} {text : Bs} {i : Nat} (hi : i < ps.length) {m : Nat} (hn : ltrs ps[i] ≠ []) (hm : text.length < m + (ltrs ps[i]).length) (k : Nat) (v : Int) : S1 ps text i ps[i] m k v ↔ S0 ps text (i + 1) k v := by
  have hl : 0 < (ltrs ps[i]).length := List.length_pos_iff.2 hn
  have hpre : ∀ a, ltrs ps[i] <+: text.drop a → a + (ltrs ps[i]).length ≤ text.length := fun a h => by
    have := h.length_le
    rw [List.length_drop] at this
    omega
  unfold S1 S0 Has
  rw [List.take_succ_eq_append_getElem hi]
  simp only [List.mem_append, List.mem_singleton]
  constructor
  · rintro (⟨p, hp, h1⟩ | ⟨a, h1, h2, h3⟩)
    · exact ⟨p, .inl hp, h1⟩
    · exact ⟨_, .inr rfl, a, by have := hpre a h2; omega, h2, h3⟩
  · rintro ⟨p, hp | rfl, a, h1, h2, h3⟩
    · exact .inl ⟨p, hp, a, h1, h2, h3⟩
    · exact .inr ⟨a, by have := hpre a h2; omega, h2, h3⟩
theorem VI.val {d : List Int} {ps : List Bs} {text : Bs} (h : VI d (S0 ps text ps.length)) {k : Nat} (hk : k < d.length) : d[k] = valI ps text (k + 1) := by
  obtain ⟨h1, h2⟩ := h k hk
  refine eq_of_le h1 (valI_nonneg _ _ _) fun v hv => ?_
  rw [h2 v hv, le_valI hv]
  unfold S0
  rw [List.take_of_length_le (Nat.le_refl _)]
end Go.Proofs.YtfblhpkndfbhgaaDoor
