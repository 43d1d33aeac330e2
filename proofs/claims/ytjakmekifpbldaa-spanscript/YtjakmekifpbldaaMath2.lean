/-
  What is proved here: plain facts on where a byte's run is, and on the runs of a part (no program is named).
-/
import Derived.Test.YtjakmekifpbldaaMath
namespace Go.Proofs.Ytjakmekifpbldaa

theorem count_mono (p : Nat → Bool) (hp : ∀ a b, a ≤ b → p a = true → p b = true) (n : Nat) :
    let c := (List.range n).countP (fun i => !p i)
    c ≤ n ∧ (∀ j, j < c → p j = false) ∧ ∀ j, c ≤ j → j < n → p j = true := by
  induction n with
  | zero => simp
  | succ n ih =>
    obtain ⟨h1, h2, h3⟩ := ih
    simp only [List.range_succ, List.countP_append, List.countP_cons, List.countP_nil, Nat.zero_add]
    cases hn : p n with
    | true =>
      simp only [Bool.not_true, Bool.false_eq_true, if_false, Nat.add_zero]
      refine ⟨by omega, h2, fun j hj hjn => ?_⟩
      by_cases he : j = n
      · rw [he]; exact hn
      · exact h3 j hj (by omega)
    | false =>
      simp only [Bool.not_false, if_true]
      have hall : ∀ j, j ≤ n → p j = false := fun j hj => by
        cases hpj : p j with
        | false => rfl
        | true => have := hp j n hj hpj; rw [hn] at this; cases this
      have hc : (List.range n).countP (fun i => !p i) = n := by
        have : ¬ (List.range n).countP (fun i => !p i) < n := fun hlt => by
          have := h3 _ (Nat.le_refl _) hlt
          rw [hall _ (by omega)] at this; cases this
        omega
      rw [hc]
      exact ⟨by omega, fun j hj => hall j (by omega), fun j hj hjn => by omega⟩

/-- In which run a byte is. -/
def idx (L : List Ch) (x : Nat) : Nat := (List.range (rle L).length).countP (fun i => !decide (x < tot ((rle L).take (i + 1))))

theorem idx_spec (L : List Ch) {x : Nat} (hx : x < L.length) : idx L x < (rle L).length ∧ tot ((rle L).take (idx L x)) ≤ x ∧ x < tot ((rle L).take (idx L x + 1)) := by
  have h := count_mono (fun i => decide (x < tot ((rle L).take (i + 1)))) (fun a b hab ha => by
    have := tot_take_mono (rle L) (show a + 1 ≤ b + 1 by omega)
    simp at ha ⊢; omega) (rle L).length
  have hi : idx L x = (List.range (rle L).length).countP (fun i => !decide (x < tot ((rle L).take (i + 1)))) := rfl
  obtain ⟨h1, h2, h3⟩ := h
  rw [← hi] at h1 h2 h3
  have hlt : idx L x < (rle L).length := by
    by_cases he : idx L x = (rle L).length
    · have hpos : 0 < (rle L).length := by
        rcases Nat.eq_zero_or_pos (rle L).length with h0 | h0
        · have h4 := List.eq_nil_of_length_eq_zero h0
          have h5 := rle_length L
          rw [h4] at h5; simp [tot] at h5; omega
        · exact h0
      have := h2 ((rle L).length - 1) (by omega)
      simp only [decide_eq_false_iff_not] at this
      rw [Nat.sub_add_cancel hpos, List.take_length, rle_length] at this
      omega
    · omega
  refine ⟨hlt, ?_, ?_⟩
  · rcases Nat.eq_zero_or_pos (idx L x) with h0 | h0
    · rw [h0]; simp [tot]
    · have := h2 (idx L x - 1) (by omega)
      simp only [decide_eq_false_iff_not] at this
      rw [Nat.sub_add_cancel h0] at this
      omega
  · have := h3 (idx L x) (Nat.le_refl _) hlt
    simpa using this

/-- The bytes from a up to b. -/
def sub (L : List Ch) (a b : Nat) : List Ch := (L.take b).drop a
theorem sub_length (L : List Ch) {a b : Nat} (h : b ≤ L.length) : (sub L a b).length = b - a := by simp [sub]; omega
theorem sub_get (L : List Ch) {a b j : Nat} (h : a + j < b) : (sub L a b)[j]? = L[a + j]? := by
  simp only [sub, List.getElem?_drop]
  rw [List.getElem?_take, if_pos h]
theorem sub_self (L : List Ch) (a : Nat) : sub L a a = [] := by simp [sub]
theorem sub_split (L : List Ch) {a b c : Nat} (h1 : a ≤ b) (h2 : b ≤ c) (h3 : c ≤ L.length) : sub L a c = sub L a b ++ sub L b c := by
  apply List.ext_getElem?
  intro j
  by_cases hj : j < b - a
  · rw [List.getElem?_append_left (by rw [sub_length L (by omega)]; omega), sub_get L (by omega), sub_get L (by omega)]
  · rw [List.getElem?_append_right (by rw [sub_length L (by omega)]; omega), sub_length L (by omega)]
    by_cases hk : a + j < c
    · rw [sub_get L hk, sub_get L (by omega)]; congr 1; omega
    · rw [List.getElem?_eq_none (by rw [sub_length L (by omega)]; omega), List.getElem?_eq_none (by rw [sub_length L (by omega)]; omega)]
theorem sub_all (L : List Ch) : sub L 0 L.length = L := by simp [sub]

theorem rle_last (l : List Ch) (q : Sp) (h : (rle l).getLast? = some q) : l.getLast? = some q.2 := by
  obtain ⟨a, ha⟩ := List.getLast?_eq_some_iff.1 h
  have hf := rle_full l
  have he := rle_expand l
  rw [ha] at hf he
  have hq := hf q (by simp)
  rw [← he, expand_append]
  simp only [expand, List.append_nil]
  obtain ⟨n, hn⟩ : ∃ n, q.1 = n + 1 := ⟨q.1 - 1, by omega⟩
  rw [hn, List.replicate_succ', ← List.append_assoc]
  simp

theorem rle_byte (L : List Ch) {i j : Nat} (hi : i < (rle L).length) (h1 : tot ((rle L).take i) ≤ j) (h2 : j < tot ((rle L).take (i + 1))) : L[j]? = some (rle L)[i].2 := by
  have := expand_get (rle L) hi h1 h2
  rwa [rle_expand] at this

theorem sub_rep (L : List Ch) {i a b : Nat} (hi : i < (rle L).length) (h1 : tot ((rle L).take i) ≤ a) (h2 : b ≤ tot ((rle L).take (i + 1))) (hb : b ≤ L.length) : sub L a b = List.replicate (b - a) (rle L)[i].2 := by
  apply List.ext_getElem?
  intro j
  by_cases hj : a + j < b
  · rw [sub_get L hj, List.getElem?_replicate, if_pos (by omega), rle_byte L hi (by omega) (by omega)]
  · rw [List.getElem?_eq_none (by rw [sub_length L hb]; omega), List.getElem?_eq_none (by simp; omega)]

/-- One step of going through the runs of a part. -/
theorem part_step (L : List Ch) {i f0 f e : Nat} (hi : i < (rle L).length) (h1 : tot ((rle L).take i) ≤ f) (hfe : f < e) (he : e ≤ tot ((rle L).take (i + 1))) (h0 : f0 ≤ f) (hl : e ≤ L.length) (hor : f = f0 ∨ f = tot ((rle L).take i)) :
    rle (sub L f0 e) = rle (sub L f0 f) ++ [(e - f, (rle L)[i].2)] := by
  rw [sub_split L h0 (Nat.le_of_lt hfe) hl, sub_rep L hi h1 he hl]
  refine rle_new _ _ _ (by omega) (fun q hq => ?_)
  have hlast := rle_last _ q hq
  by_cases hff : f = f0
  · rw [hff, sub_self] at hlast; simp at hlast
  · have hf : f = tot ((rle L).take i) := hor.resolve_left hff
    have hi0 : i ≠ 0 := fun hz => by rw [hz] at hf; simp [tot] at hf; omega
    obtain ⟨k, rfl⟩ : ∃ k, i = k + 1 := ⟨i - 1, by omega⟩
    have hk : k < (rle L).length := by omega
    have hfull := rle_full L (rle L)[k] (List.getElem_mem hk)
    have hts := tot_take_succ (rle L) hk
    have hb := rle_byte L hk (j := f - 1) (by omega) (by omega)
    rw [List.getLast?_eq_getElem?, sub_length L (by omega), sub_get L (by omega)] at hlast
    have : f0 + (f - f0 - 1) = f - 1 := by omega
    rw [this, hb] at hlast
    injection hlast with hlast
    rw [← hlast]
    exact fun h => apart_get (rle L) (rle_apart L) hi h.symm
/-- And where it goes on. -/
theorem part_next (L : List Ch) {i e to : Nat} (hi : i < (rle L).length) (he : e = min (tot ((rle L).take (i + 1))) to) (hto : to ≤ L.length) (hlt : e < to) :
    i + 1 < (rle L).length ∧ tot ((rle L).take (i + 1)) ≤ e ∧ e < tot ((rle L).take (i + 1 + 1)) ∧ e = tot ((rle L).take (i + 1)) := by
  have he' : e = tot ((rle L).take (i + 1)) := by omega
  have h1 : i + 1 < (rle L).length := by
    by_cases h : i + 1 = (rle L).length
    · rw [h, List.take_length, rle_length] at he'; omega
    · omega
  have := tot_take_succ (rle L) h1
  have hf := rle_full L (rle L)[i + 1] (List.getElem_mem h1)
  exact ⟨h1, by omega, by omega, he'⟩
end Go.Proofs.Ytjakmekifpbldaa
