/-
  What is proved here: the clusters of a text in two parts (no program is named).
-/
import Derived.Test.YtjmcfdmonckhmaaKnown
namespace Go.Proofs.Ytjmcfdmonckhmaa
open Go.RowKit Go.Shelf

theorem bt_get (t : ByteArray) (k : Nat) : bt t k = match t.data[k]? with
    | some c => (c.toNat : Int)
    | none => 0 := by
  by_cases h : k < t.size
  · rw [bt_eq h, Array.getElem?_eq_getElem h]; rfl
  · rw [bt_no h, Array.getElem?_eq_none (by show t.size ≤ k; omega)]
theorem app_size (a b : ByteArray) : (a ++ b).size = a.size + b.size := ByteArray.size_append
theorem bt_left (a b : ByteArray) {k : Nat} (h : k < a.size) : bt (a ++ b) k = bt a k := by
  rw [bt_get, bt_get, ByteArray.data_append, Array.getElem?_append_left h]
theorem bt_right (a b : ByteArray) (k : Nat) : bt (a ++ b) (a.size + k) = bt b k := by
  rw [bt_get, bt_get, ByteArray.data_append, Array.getElem?_append_right (by show a.size ≤ a.size + k; omega)]
  rw [show a.size + k - a.data.size = k by show a.size + k - a.size = k; omega]

theorem end_left (a b : ByteArray) (hb : accB (bt b 0) = false) {k : Nat} (h : k < a.size) : endN (a ++ b) k = endN a k := by
  have hA : ∀ j, j ≤ a.size → accB (bt (a ++ b) j) = accB (bt a j) := fun j hj => by
    by_cases h' : j < a.size
    · rw [bt_left a b h']
    · have := bt_right a b 0
      rw [show a.size + 0 = j by omega] at this
      rw [this, hb, bt_no h']; decide
  unfold endN
  rw [bt_left a b h, hA (k + 1) (by omega)]
  by_cases h1 : accB (bt a (k + 1)) = true
  · rw [hA (k + 2) (by have := acc_lt h1; omega)]
  · rw [if_neg h1, if_neg h1]
theorem end_right (a b : ByteArray) (k : Nat) : endN (a ++ b) (a.size + k) = a.size + endN b k := by
  have h1 := bt_right a b (k + 1)
  have h2 := bt_right a b (k + 2)
  rw [← Nat.add_assoc] at h1 h2
  unfold endN
  rw [bt_right, h1, h2]
  split
  · split
    · split <;> omega
    · omega
  · omega
theorem st_left (a b : ByteArray) (hb : accB (bt b 0) = false) : ∀ i, i ≤ num a → st (a ++ b) i = st a i
  | 0, _ => rfl
  | i + 1, hi => by
    have ih := st_left a b hb i (by omega)
    have hlt := num_lt (t := a) (show i < num a by omega)
    rw [st_succ (t := a ++ b) (by rw [ih, app_size]; omega), st_succ hlt, ih, end_left a b hb hlt]
theorem st_right (a b : ByteArray) (hb : accB (bt b 0) = false) : ∀ i, i ≤ num b → st (a ++ b) (num a + i) = a.size + st b i
  | 0, _ => by rw [Nat.add_zero, st_left a b hb _ (Nat.le_refl _), num_end]; rfl
  | i + 1, hi => by
    have ih := st_right a b hb i (by omega)
    have hlt := num_lt (t := b) (show i < num b by omega)
    rw [← Nat.add_assoc, st_succ (t := a ++ b) (by rw [ih, app_size]; omega), st_succ hlt, ih, end_right]
theorem num_app (a b : ByteArray) (hb : accB (bt b 0) = false) : num (a ++ b) = num a + num b := by
  have h := st_right a b hb (num b) (Nat.le_refl _)
  rw [num_end b, ← app_size] at h
  by_cases h' : num a + num b < num (a ++ b)
  · have := num_lt h'; omega
  · by_cases h2 : num (a ++ b) < num a + num b
    · exfalso
      have h3 : st (a ++ b) (num a + num b - 1) < (a ++ b).size := by
        by_cases h0 : num b = 0
        · rw [h0, Nat.add_zero] at h2 ⊢
          rw [st_left a b hb _ (by omega), app_size]
          have := num_lt (t := a) (show num a - 1 < num a by omega)
          omega
        · have := st_right a b hb (num b - 1) (by omega)
          rw [← Nat.add_sub_assoc (by omega)] at this
          rw [this, app_size]
          have := num_lt (t := b) (show num b - 1 < num b by omega)
          omega
      have := lt_num h3
      omega
    · omega

/-- A cluster that stands n bytes further on. -/
def shift (n : Nat) (c : Cl) : Cl := ⟨c.f + n, c.t + n, c.k⟩
theorem cls_app (a b : ByteArray) (hb : accB (bt b 0) = false) : cls (a ++ b) = cls a ++ (cls b).map (shift a.size) := by
  apply List.ext_getElem
  · rw [List.length_append, List.length_map, cls_len, cls_len, cls_len, num_app a b hb]
  · intro i h1 h2
    rw [cls_get]
    by_cases hi : i < (cls a).length
    · rw [List.getElem_append_left hi, cls_get]
      rw [cls_len] at hi
      unfold clOf
      rw [st_left a b hb i (by omega), st_left a b hb (i + 1) (by omega), bt_left a b (num_lt hi)]
    · obtain ⟨j, rfl⟩ : ∃ j, i = num a + j := ⟨i - num a, by rw [cls_len] at hi; omega⟩
      have hj : j < num b := by rw [cls_len, num_app a b hb] at h1; omega
      rw [List.getElem_append_right (by rw [cls_len]; omega), List.getElem_map]
      have : ∀ (m : Nat) (hm : m < (cls b).length), m = j → (cls b)[m] = clOf b j := fun m hm e => by subst e; exact cls_get b hm
      rw [this _ (by rw [cls_len]; simp [cls_len]; omega) (by rw [cls_len]; omega)]
      unfold clOf shift
      have e1 := st_right a b hb j (by omega)
      have e2 := st_right a b hb (j + 1) (by omega)
      rw [← Nat.add_assoc] at e2
      rw [e1, e2, bt_right]
      simp only [Cl.mk.injEq]
      refine ⟨by omega, by omega, trivial⟩

theorem wrong_app_ok {a b : ByteArray} (ha : wrongI a = 0) (hb : wrongI b = 0) (hs : a.size + b.size ≤ 4096) : wrongI (a ++ b) = 0 := by
  refine wrong_ok (by rw [app_size]; omega) (fun k hk => ?_)
  by_cases h : k < a.size
  · rw [bt_left a b h]; exact ok_kind ha h
  · obtain ⟨j, rfl⟩ : ∃ j, k = a.size + j := ⟨k - a.size, by omega⟩
    rw [bt_right]; exact ok_kind hb (by rw [app_size] at hk; omega)
theorem wrong_is {t : ByteArray} (h : wrongI t ≠ 0) (hs : t.size ≤ 4096) : ∃ k, k < t.size ∧ kindI (bt t k) = 0 := by
  unfold wrongI at h
  rw [if_neg (by omega)] at h
  by_cases hk : ∃ k, k < t.size ∧ kindI (bt t k) = 0
  · exact hk
  · rw [if_neg hk] at h; exact absurd rfl h
theorem wrong_app_no {a b : ByteArray} (h : wrongI a ≠ 0 ∨ wrongI b ≠ 0) (hs : a.size + b.size ≤ 4096) : wrongI (a ++ b) = 4 := by
  rcases h with h | h
  · obtain ⟨k, hk, h0⟩ := wrong_is h (by omega)
    exact wrong_byte (k := k) (by rw [app_size]; omega) (by rw [app_size]; omega) (by rw [bt_left a b hk]; exact h0)
  · obtain ⟨k, hk, h0⟩ := wrong_is h (by omega)
    exact wrong_byte (k := a.size + k) (by rw [app_size]; omega) (by rw [app_size]; omega) (by rw [bt_right]; exact h0)

theorem flat_set (l : List Cl) {k : Nat} (h : k < l.length) (c : Cl) (hk : c.k = l[k].k) : ((flat l).set (k * 3) (.int .i64 c.f)).set (k * 3 + 1) (.int .i64 c.t) = flat (l.set k c) := by
  apply List.ext_getElem?
  intro m
  have hz := flat_len l
  have hz' := flat_len (l.set k c)
  rw [List.length_set] at hz'
  by_cases hm : m < l.length * 3
  · obtain ⟨i, j, hj, rfl⟩ : ∃ i j, j < 3 ∧ m = i * 3 + j := ⟨m / 3, m % 3, by omega, by omega⟩
    have hi : i < l.length := by omega
    rw [flat_get (l.set k c) (by rw [List.length_set]; exact hi) j hj]
    by_cases hik : i = k
    · subst hik
      rw [List.getElem_set_self]
      obtain rfl | rfl | rfl : j = 0 ∨ j = 1 ∨ j = 2 := by omega
      · rw [List.getElem?_set_ne (by omega), Nat.add_zero, List.getElem?_set_self (by omega)]; rfl
      · rw [List.getElem?_set_self (by rw [List.length_set]; omega)]; rfl
      · rw [List.getElem?_set_ne (by omega), List.getElem?_set_ne (by omega), flat_get l hi 2 (by omega)]
        show some (Value.int .i64 l[i].k) = some (Value.int .i64 c.k)
        rw [hk]
    · have e : (l.set k c)[i]'(by rw [List.length_set]; exact hi) = l[i] := List.getElem_set_ne (Ne.symm hik) _
      rw [e, List.getElem?_set_ne (by omega), List.getElem?_set_ne (by omega), flat_get l hi j hj]
  · rw [List.getElem?_eq_none (by simp; omega), List.getElem?_eq_none (by omega)]

theorem ownsRow_set {W : World} {base g n cap : Nat} {xs : List Value} (h : W.ownsRow base 28 3 (.slice (some ⟨g, 0, none⟩) n cap) n xs) (j : Nat) (u : Value) : (W.setCell ⟨g, j, none⟩ u).ownsRow base 28 3 (.slice (some ⟨g, 0, none⟩) n cap) n (xs.set j u) := by
  obtain ⟨g', cap', cur, e, hb, hg, h1, h2, h3, h4⟩ := h.2.resolve_left (fun h => by cases h.1)
  cases e
  refine ⟨by rw [List.length_set]; exact h.1, .inr ⟨g, cap, cur.setIfInBounds j u, rfl, hb, heap_setCell_same W g j cur 28 u hg, h1, h2, by simp [h3], ?_⟩⟩
  rw [Array.toList_setIfInBounds, List.take_set, h4]
/-- The clusters of the second part, the first k of which have been shifted. -/
def partly (n : Nat) (l : List Cl) (k : Nat) : List Cl := (l.take k).map (shift n) ++ l.drop k
theorem partly_len (n : Nat) (l : List Cl) {k : Nat} (h : k ≤ l.length) : (partly n l k).length = l.length := by simp [partly]; omega
theorem partly_zero (n : Nat) (l : List Cl) : partly n l 0 = l := by simp [partly]
theorem partly_all (n : Nat) (l : List Cl) : partly n l l.length = l.map (shift n) := by simp [partly]
theorem partly_get (n : Nat) (l : List Cl) {k : Nat} (h : k < l.length) (h' : k < (partly n l k).length) : (partly n l k)[k] = l[k] := by
  have hl : ((l.take k).map (shift n)).length = k := by simp; omega
  simp only [partly]
  rw [List.getElem_append_right (by omega)]
  simp [Nat.min_eq_left (Nat.le_of_lt h)]
theorem partly_set (n : Nat) (l : List Cl) {k : Nat} (h : k < l.length) : (partly n l k).set k (shift n l[k]) = partly n l (k + 1) := by
  have hl : ((l.take k).map (shift n)).length = k := by simp; omega
  simp only [partly]
  rw [List.set_append_right _ _ (by omega), hl, Nat.sub_self, List.take_succ_eq_append_getElem h, List.map_append, List.append_assoc]
  congr 1
  rw [List.drop_eq_getElem_cons h]
  rfl
end Go.Proofs.Ytjmcfdmonckhmaa
