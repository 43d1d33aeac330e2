/-
  What is proved here: how a list of texts that is handed in looks.
-/
import Derived.Test.YtfblhpkndfbhgaaDoorOpen
import Derived.ChangeOld
import Derived.Below
import Derived.Deep.Slices
import Derived.SizedLaws
namespace Go.Proofs.YtfblhpkndfbhgaaDoor
open Go.ChangeShapes Go.WideShapes Go.ChangeAt Go.RowKit

/-- A list of records that is handed in. -/
theorem recs_in {H : Type} {enc : TypeId × Value → H} {W : World} {spare : Nat → Bool} {fuel : Nat} {cs : List Value} {x : DataW H × List MemPlace} {α : Type} {k : Nat} {f : α → List Value} {ty e : TypeId} (hu : Tryd.prog.underlying ty = some (.slice e)) (ck : Tryd.prog.cellsOf e = k) (hk : 0 < k)
    (hat : ∀ (n : Nat) (cs : List Value) (x : DataW H × List MemPlace), cs.length = k → DataW.trod enc Tryd.prog W 0 spare true n e cs = some x → ∃ q : α, cs = f q)
    (hf : DataW.trod enc Tryd.prog W 0 spare true fuel ty cs = some x) : ∃ (v : Value) (qs : List α), cs = [v] ∧ RecAt k f W v qs ∧ qs.length ≤ 9223372036854775807 ∧ ((x.1 = .nil ∧ qs = []) ∨ ∃ es sp, x.1 = .slice es sp ∧ es.length = qs.length) := by
  rcases Deep.open_slice hu hf with ⟨hcs, hx0⟩ | ⟨a, len, cap, m, n, D, Pl, hcs, _, hl, hm, hmm, hx1, hx⟩
  · subst hcs
    exact ⟨_, [], rfl, ⟨⟨none, 0, rfl, .inl rfl⟩, fun a n c e => by cases e; exact Nat.le_refl _⟩, by simp, .inl ⟨by rw [hx0], rfl⟩⟩
  · subst hcs
    have hlm : len ≤ m := by rw [hmm]; split <;> omega
    rw [ck] at hx
    have hdat : ∃ es sp, x.1 = .slice es sp ∧ es.length = len := by rw [hx1]; exact ⟨_, _, rfl, by simp⟩
    obtain ⟨es, sp, hes, hel⟩ := hdat
    by_cases h0 : len = 0
    · subst h0
      exact ⟨_, [], rfl, ⟨⟨_, _, rfl, .inl rfl⟩, fun a n c e => by cases e; exact hl⟩, by simp, .inr ⟨es, sp, hes, by simpa using hel⟩⟩
    · obtain ⟨b, off, spot⟩ := a
      obtain ⟨cs', hc0, ht0⟩ := hx 0 (by omega)
      have hb := World.cells?_block hc0 (by omega)
      obtain ⟨_, hl0, hce⟩ := World.cells?_some hc0
      have hg := hce 0 (by omega)
      have hspot : spot = none := by
        match cs', hl0 with
        | z :: _, _ => simpa [Addr.add] using World.cell?_spot hg
        | [], h => simp at h; omega
      subst hspot
      rw [addr_add] at hb
      have hq : ∀ i : Fin len, ∃ q : α, ∀ j u, (f q)[j]? = some u → W.cell? ⟨b, off + i * k + j, none⟩ = some u := fun i => by
        obtain ⟨cs', hc1, ht1⟩ := hx i (by omega)
        rw [addr_add] at hc1
        obtain ⟨_, hl1, hce1⟩ := World.cells?_some hc1
        obtain ⟨q, rfl⟩ := hat _ _ _ hl1 ht1
        refine ⟨q, fun j u hu => ?_⟩
        have hj : j < (f q).length := (List.getElem?_eq_some_iff.1 hu).1
        have := hce1 j (by omega)
        rw [addr_add] at this
        exact this.trans hu
      refine ⟨_, List.ofFn (fun i => Classical.choose (hq i)), rfl, ⟨⟨_, _, by simp; exact rfl, .inr ⟨b, off, rfl, hb, fun i hi j u hu => ?_⟩⟩, fun a n c e => by cases e; exact hl⟩, by simp; unfold maxLen at hm; omega, .inr ⟨es, sp, hes, by simpa using hel⟩⟩
      have hi' : i < len := by simpa using hi
      have := Classical.choose_spec (hq ⟨i, hi'⟩) j u (by simpa using hu)
      simpa using this

theorem str_at {H : Type} {enc : TypeId × Value → H} {W : World} {spare : Nat → Bool} {n : Nat} {cs : List Value} {x : DataW H × List MemPlace}
    (ht : DataW.trod enc Tryd.prog W 0 spare true n 9 cs = some x) : ∃ q : ByteArray, cs = [.string q] := by
  obtain ⟨q, e, _, _⟩ := DataW.trod_string Tryd.underlying9 ht
  exact ⟨q, e⟩
theorem texts_in {H : Type} {enc : TypeId × Value → H} {W : World} {spare : Nat → Bool} {v : Value} {d : DataW H} {p : List MemPlace}
    (h : ∃ m, DataW.trod enc Tryd.prog W 0 spare true m 22 [v] = some (d, p)) : ∃ ls : List ByteArray, TxAt W v ls := by
  obtain ⟨m, hm⟩ := h
  have c9 : Tryd.prog.cellsOf 9 = 1 := by kernel_rfl
  obtain ⟨v', qs, e, hR, _⟩ := recs_in (α := ByteArray) (k := 1) (f := fun t => [Value.string t]) Tryd.underlying22 c9 (by decide) (fun _ _ _ _ h2 => str_at h2) hm
  cases e
  exact ⟨qs, hR⟩
end Go.Proofs.YtfblhpkndfbhgaaDoor
