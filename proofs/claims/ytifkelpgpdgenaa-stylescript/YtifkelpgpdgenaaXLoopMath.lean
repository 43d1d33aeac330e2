/-
  What is proved here: what Parent of style answers; which names a sheet's map has; that no row of unlike names of a sheet is longer than there are.
-/
import Derived.Test.YtifkelpgpdgenaaXResolve
import Derived.Sort.KeysCollected
namespace Go.Proofs.Ytifkelpgpdgenaa
open Go.RowKit Go.Shelf

variable {X : Nat → Prop}

theorem nodup_le {α : Type} [DecidableEq α] : ∀ (l m : List α), l.Nodup → (∀ x ∈ l, x ∈ m) → l.length ≤ m.length
  | [], _, _, _ => Nat.zero_le _
  | a :: l, m, hn, hs => by
    obtain ⟨h1, h2⟩ := List.nodup_cons.1 hn
    have ha := hs a (by simp)
    have := nodup_le l (m.erase a) h2 fun x hx => by
      refine (List.mem_erase_of_ne ?_).2 (hs x (by simp [hx]))
      intro e; subst e; exact h1 hx
    rw [List.length_erase_of_mem ha] at this
    have hp : 0 < m.length := List.length_pos_of_mem ha
    simp
    omega

set_option maxHeartbeats 1000000 in
theorem parent_some (t b n : Nat) (S : Sh) (s p : Str) (L : List (Int × Int)) (hs : s.size ≤ maxLen) (hx : S s = some (p, L)) (w : World) (h : SheetAt X w t b n S) :
    Calls Try.prog 29 #[.pointer (some ⟨t, 0, none⟩), .string s] w fun e w' => e = .returned (.tuple #[.string p, .int .i64 0]) ∧ Below w.heap.size w w' := by
  have hmade := made_yes t w h.cells.1
  have hfd := field82
  go_enter Try.func29, Try.ntmps29
  go_wp2_with (go_at_call 37; refine hmade.mono ?_; rintro e w' ⟨rfl, hww⟩; subst w')
  refine (has_any t b n S s hs w h).mono ?_
  rintro e w1 ⟨rfl, b1⟩
  rw [hx]
  have h1 := h.below b1
  obtain ⟨D, g1, _, g3⟩ := h1.own
  obtain ⟨a, cap, hl, _⟩ := look_false g1 hs (g3 s)
  rw [hx] at hl
  simp only [Option.map_some, Option.getD_some] at hl
  unfold styV at hl
  obtain ⟨c0, c1⟩ := h1.cells
  rw [show (some (p, L) : Option Sty).isSome = true from rfl]
  clear g1 g3
  go_wp2_with fail
  go_ret2
  exact ⟨rfl, b1⟩

/-- The names that a sheet's map has. -/
theorem keys_of {w : World} {t b n : Nat} {S : Sh} (h : SheetAt X w t b n S) : ∃ D : DataW Value, w.ownsMap Try.prog 9 R0 b n D ∧ Maps.size D = n ∧ (strKeys D).length = n ∧ (∀ x ∈ strKeys D, (S ⟨x.toArray⟩).isSome = true) ∧ ∀ u x, S u = some x → u.data.toList ∈ strKeys D := by
  obtain ⟨D, h1, h2, h3⟩ := h.own
  refine ⟨D, h1, h2, ?_, ?_, ?_⟩
  · obtain ⟨es, clock, _, _, _, rfl⟩ := h1
    rw [← h2]; simp [strKeys, Maps.size]
  · intro x hx
    have he := entry_has (h3 ⟨x.toArray⟩)
    rw [← he]
    obtain ⟨es, clock, _, F, _, rfl⟩ := h1
    simp only [strKeys, List.mem_map] at hx
    obtain ⟨p, hp, rfl⟩ := hx
    have hk := Maps.fit_keys F p ((WideShapes.sorted_perm _).mem_iff.1 hp)
    obtain ⟨v, hv⟩ := hk
    obtain ⟨s, _, hs, _⟩ := Go.WideMaps.string_of_keyOf Try.underlying9 hv
    rw [Maps.has_eq]
    refine List.any_eq_true.2 ⟨p, hp, ?_⟩
    rw [hs]
    have : keyL ⟨(Go.strOf (.string s.data.toList)).toArray⟩ = .string s.data.toList := by simp [keyL, Go.strOf]
    rw [this]
    exact WideAt.sameKey_self trivial
  · intro u x hx
    have he := entry_has (h3 u)
    rw [hx] at he
    obtain ⟨es, clock, _, F, _, rfl⟩ := h1
    rw [Maps.has_eq] at he
    obtain ⟨p, hp, hs⟩ := List.any_eq_true.1 he
    have := WideAt.sameKey_eq hs
    simp only [strKeys, List.mem_map]
    exact ⟨p, hp, by rw [this]; rfl⟩
end Go.Proofs.Ytifkelpgpdgenaa
