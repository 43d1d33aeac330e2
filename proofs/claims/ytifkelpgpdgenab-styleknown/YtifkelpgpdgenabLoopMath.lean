/-
  What is proved here: what Parent of style answers; which names a sheet's map has; that no row of unlike names of a sheet is longer than there are.
-/
import Derived.Test.YtifkelpgpdgenabAwakeB
import Derived.Sort.KeysCollected
namespace Go.Proofs.Ytifkelpgpdgenab
open Go.RowKit Go.Shelf

theorem nodup_le {α : Type} [DecidableEq α] : ∀ (l m : List α), l.Nodup → (∀ x ∈ l, x ∈ m) → l.length ≤ m.length
  | [], _, _, _ => Nat.zero_le _
  | a :: l, m, hn, hs => by
    obtain ⟨h1, h2⟩ := List.nodup_cons.1 hn
    have ha := hs a (by simp)
    have := nodup_le l (m.erase a) h2 fun x hx => by
      refine (List.mem_erase_of_ne ?_).2 (hs x (by simp [hx]))
      intro e; subst e; exact h1 hx
    rw [List.length_erase_of_mem ha] at this
    have hp : 0 < m.length := List.length_pos_of_mem ha
    simp
    omega

/-- The names that a sheet's map has. -/
theorem keys_of {w : World} {t b n : Nat} {S : Sh} (h : SheetAt w t b n S) : ∃ D : DataW Value, w.ownsMap Try.prog 9 R0 b n D ∧ Maps.size D = n ∧ (strKeys D).length = n ∧ (∀ x ∈ strKeys D, (S ⟨x.toArray⟩).isSome = true) ∧ ∀ u x, S u = some x → u.data.toList ∈ strKeys D := by
  obtain ⟨D, h1, h2, h3⟩ := h.own
  refine ⟨D, h1, h2, ?_, ?_, ?_⟩
  · obtain ⟨es, clock, _, _, _, rfl⟩ := h1
    rw [← h2]; simp [strKeys, Maps.size]
  · intro x hx
    have he := entry_has (h3 ⟨x.toArray⟩)
    rw [← he]
    obtain ⟨es, clock, _, F, _, rfl⟩ := h1
    simp only [strKeys, List.mem_map] at hx
    obtain ⟨p, hp, rfl⟩ := hx
    have hk := Maps.fit_keys F p ((WideShapes.sorted_perm _).mem_iff.1 hp)
    obtain ⟨v, hv⟩ := hk
    obtain ⟨s, _, hs, _⟩ := Go.WideMaps.string_of_keyOf Try.underlying9 hv
    rw [Maps.has_eq]
    refine List.any_eq_true.2 ⟨p, hp, ?_⟩
    rw [hs]
    have : keyL ⟨(Go.strOf (.string s.data.toList)).toArray⟩ = .string s.data.toList := by simp [keyL, Go.strOf]
    rw [this]
    exact WideAt.sameKey_self trivial
  · intro u x hx
    have he := entry_has (h3 u)
    rw [hx] at he
    obtain ⟨es, clock, _, F, _, rfl⟩ := h1
    rw [Maps.has_eq] at he
    obtain ⟨p, hp, hs⟩ := List.any_eq_true.1 he
    have := WideAt.sameKey_eq hs
    simp only [strKeys, List.mem_map]
    exact ⟨p, hp, by rw [this]; rfl⟩
end Go.Proofs.Ytifkelpgpdgenab
