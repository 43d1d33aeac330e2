/-
  What is proved here: Insert, Delete and Set, of the program and of the document, told alike: one code, one new list (for SpanScript).
-/
import Derived.Test.YtjakmekifpbldaaRefK
import Derived.Test.YtjakmekifpbldaaRefI
namespace Go.Proofs.Ytjakmekifpbldaa
open Go.RowKit Go.Shelf

def insC (L : List Ch) (a n : Int) : Int := if n < 0 ∨ a < 0 ∨ (L.length : Int) < a then 5 else if 4096 < (L.length : Int) + n then 8 else 0
def insN (L : List Ch) (m : Ch) (a n : Int) : List Ch := if insC L a n = 0 then insL L m a.toNat n.toNat else L
def delC (L : List Ch) (a n : Int) : Int := if 0 ≤ a ∧ 0 ≤ n ∧ a + n ≤ (L.length : Int) then 0 else 5
def delN (L : List Ch) (a n : Int) : List Ch := if delC L a n = 0 then delL L a.toNat n.toNat else L
def delK (L : List Ch) (m : Ch) (a n : Int) : Ch := if delC L a n = 0 then delM L m n.toNat else m
def setC (L : List Ch) (a n : Int) (c : Ch) : Int := if 0 ≤ a ∧ 0 ≤ n ∧ a + n ≤ (L.length : Int) then (if mayC c = true then 0 else 2) else 5
def setN (L : List Ch) (a n : Int) (c : Ch) : List Ch := if setC L a n c = 0 then setL L a.toNat n.toNat c else L

/-- The program's looks behind a call. -/
def DidP (t : Nat) (sv : Value) (k : Int) (L : List Ch) (m : Ch) (w : World) (e : Ending) (w' : World) : Prop := ∃ sv', e = .returned (.int .i64 k) ∧ LooksAt t sv' L m w' ∧ Only t w w' ∧ (sv' = sv ∨ ∀ g, sv'.ownBlock = some g → w.heap.size ≤ g)
/-- The document's. -/
def DidR (t : Nat) (k : Int) (L : List Ch) (m : Ch) (w : World) (e : Ending) (w' : World) : Prop := ∃ v', e = .returned (.int .i64 k) ∧ RefAt t v' L m w' ∧ Only t w w'

theorem insP (t : Nat) (sv : Value) (L : List Ch) (m : Ch) (a n : Int) (w : World) (h : LooksAt t sv L m w) :
    Calls Try.prog 21 #[.pointer (some ⟨t, 0, none⟩), .int .i64 a, .int .i64 n] w (DidP t sv (insC L a n) (insN L m a n) m w) := by
  unfold insN
  by_cases h1 : n < 0 ∨ a < 0 ∨ (L.length : Int) < a
  · have e0 : insC L a n = 5 := by unfold insC; rw [if_pos h1]
    rw [e0, if_neg (by omega)]
    refine (insert_range t sv L m a n h1 w h).mono ?_
    rintro e w' ⟨rfl, rfl⟩
    exact ⟨sv, rfl, h, only_of_below (Below.refl _ _), .inl rfl⟩
  · obtain ⟨p, rfl⟩ : ∃ p : Nat, a = p := ⟨a.toNat, by omega⟩
    obtain ⟨q, rfl⟩ : ∃ q : Nat, n = q := ⟨n.toNat, by omega⟩
    by_cases h2 : 4096 < (L.length : Int) + q
    · have e0 : insC L p q = 8 := by unfold insC; rw [if_neg h1, if_pos h2]
      rw [e0, if_neg (by omega)]
      refine (insert_full t sv L m p q (by omega) (by omega) (by omega) w h).mono ?_
      rintro e w' ⟨rfl, rfl⟩
      exact ⟨sv, rfl, h, only_of_below (Below.refl _ _), .inl rfl⟩
    · have e0 : insC L p q = 0 := by unfold insC; rw [if_neg h1, if_neg h2]
      rw [e0, if_pos rfl]
      refine (insert_ok t sv L m p q (by omega) (by omega) w h).mono ?_
      rintro e w' ⟨sv', rfl, k1, k2, k3⟩
      exact ⟨sv', rfl, k1, k2, .inr k3⟩
theorem insR (t : Nat) (v : Value) (L : List Ch) (m : Ch) (a n : Int) (w : World) (h : RefAt t v L m w) :
    Calls Try.prog 36 #[.pointer (some ⟨t, 0, none⟩), .int .i64 a, .int .i64 n] w (DidR t (insC L a n) (insN L m a n) m w) := by
  unfold insN
  by_cases h1 : n < 0 ∨ a < 0 ∨ (L.length : Int) < a
  · have e0 : insC L a n = 5 := by unfold insC; rw [if_pos h1]
    rw [e0, if_neg (by omega)]
    refine (rinsert_range t v L m a n h1 w h).mono ?_
    rintro e w' ⟨rfl, rfl⟩
    exact ⟨v, rfl, h, only_of_below (Below.refl _ _)⟩
  · obtain ⟨p, rfl⟩ : ∃ p : Nat, a = p := ⟨a.toNat, by omega⟩
    obtain ⟨q, rfl⟩ : ∃ q : Nat, n = q := ⟨n.toNat, by omega⟩
    by_cases h2 : 4096 < (L.length : Int) + q
    · have e0 : insC L p q = 8 := by unfold insC; rw [if_neg h1, if_pos h2]
      rw [e0, if_neg (by omega)]
      refine (rinsert_full t v L m p q (by omega) (by omega) w h).mono ?_
      rintro e w' ⟨rfl, rfl⟩
      exact ⟨v, rfl, h, only_of_below (Below.refl _ _)⟩
    · have e0 : insC L p q = 0 := by unfold insC; rw [if_neg h1, if_neg h2]
      rw [e0, if_pos rfl]
      refine (rinsert_ok t v L m p q (by omega) (by omega) w h).mono ?_
      rintro e w' ⟨v', rfl, k1, k2⟩
      exact ⟨v', rfl, k1, k2⟩

theorem delL_zero (L : List Ch) {p : Nat} (hp : p ≤ L.length) : delL L p 0 = L := by
  unfold delL
  rw [Nat.add_zero, ← sub_split L (Nat.zero_le _) hp (Nat.le_refl _), sub_all]
theorem delM_zero (L : List Ch) (m : Ch) : delM L m 0 = m := by
  unfold delM
  by_cases h : 0 = L.length
  · rw [if_pos h]; unfold aheadC; rw [List.getElem?_eq_none (by omega)]; rfl
  · rw [if_neg h]
theorem delP (t : Nat) (sv : Value) (L : List Ch) (m : Ch) (a n : Int) (ha : a ≤ 9223372036854775807) (w : World) (h : LooksAt t sv L m w) :
    Calls Try.prog 22 #[.pointer (some ⟨t, 0, none⟩), .int .i64 a, .int .i64 n] w (DidP t sv (delC L a n) (delN L a n) (delK L m a n) w) := by
  unfold delN delK
  by_cases h1 : 0 ≤ a ∧ 0 ≤ n ∧ a + n ≤ (L.length : Int)
  · have e0 : delC L a n = 0 := by unfold delC; rw [if_pos h1]
    obtain ⟨p, rfl⟩ : ∃ p : Nat, a = p := ⟨a.toNat, by omega⟩
    obtain ⟨q, rfl⟩ : ∃ q : Nat, n = q := ⟨n.toNat, by omega⟩
    rw [e0, if_pos rfl, if_pos rfl]
    refine (delete_ok t sv L m p q (by omega) w h).mono ?_
    rintro e w' ⟨sv', rfl, k1, k2, k3⟩
    exact ⟨sv', rfl, k1, k2, .inr k3⟩
  · have e0 : delC L a n = 5 := by unfold delC; rw [if_neg h1]
    rw [e0, if_neg (by omega), if_neg (by omega)]
    refine (delete_range t sv L m a n ha h1 w h).mono ?_
    rintro e w' ⟨rfl, rfl⟩
    exact ⟨sv, rfl, h, only_of_below (Below.refl _ _), .inl rfl⟩
theorem delR (t : Nat) (v : Value) (L : List Ch) (m : Ch) (a n : Int) (w : World) (h : RefAt t v L m w) :
    Calls Try.prog 37 #[.pointer (some ⟨t, 0, none⟩), .int .i64 a, .int .i64 n] w (DidR t (delC L a n) (delN L a n) (delK L m a n) w) := by
  unfold delN delK
  by_cases h1 : 0 ≤ a ∧ 0 ≤ n ∧ a + n ≤ (L.length : Int)
  · have e0 : delC L a n = 0 := by unfold delC; rw [if_pos h1]
    obtain ⟨p, rfl⟩ : ∃ p : Nat, a = p := ⟨a.toNat, by omega⟩
    obtain ⟨q, rfl⟩ : ∃ q : Nat, n = q := ⟨n.toNat, by omega⟩
    rw [e0, if_pos rfl, if_pos rfl]
    by_cases hq : q = 0
    · subst hq
      have e1 : delL L (p : Int).toNat (0 : Nat) = L := delL_zero L (by omega)
      refine Calls.mono (rdel_none t v L m p (by omega) w h) ?_
      rintro e w' ⟨rfl, rfl⟩
      refine ⟨v, rfl, ?_, only_of_below (Below.refl _ _)⟩
      have e2 : delM L m 0 = m := delM_zero L m
      show RefAt t v (delL L p 0) (delM L m 0) w'
      rw [delL_zero L (by omega), e2]
      exact h
    · refine (rdel_ok t v L m p q (by omega) (by omega) w h).mono ?_
      rintro e w' ⟨v', rfl, k1, k2⟩
      exact ⟨v', rfl, k1, k2⟩
  · have e0 : delC L a n = 5 := by unfold delC; rw [if_neg h1]
    rw [e0, if_neg (by omega), if_neg (by omega)]
    refine (rdel_range t v L m a n (by omega) w h).mono ?_
    rintro e w' ⟨rfl, rfl⟩
    exact ⟨v, rfl, h, only_of_below (Below.refl _ _)⟩

theorem setP (t : Nat) (sv : Value) (L : List Ch) (m : Ch) (a n : Int) (c : Ch) (ha : a ≤ 9223372036854775807) (w : World) (h : LooksAt t sv L m w) :
    Calls Try.prog 23 #[.pointer (some ⟨t, 0, none⟩), .int .i64 a, .int .i64 n, chV c] w (DidP t sv (setC L a n c) (setN L a n c) m w) := by
  unfold setN
  by_cases h1 : 0 ≤ a ∧ 0 ≤ n ∧ a + n ≤ (L.length : Int)
  · obtain ⟨p, rfl⟩ : ∃ p : Nat, a = p := ⟨a.toNat, by omega⟩
    obtain ⟨q, rfl⟩ : ∃ q : Nat, n = q := ⟨n.toNat, by omega⟩
    by_cases hc : mayC c = true
    · have e0 : setC L p q c = 0 := by unfold setC; rw [if_pos h1, if_pos hc]
      rw [e0, if_pos rfl]
      refine (set_ok t sv L m p q c hc (by omega) w h).mono ?_
      rintro e w' ⟨sv', rfl, k1, k2, k3⟩
      exact ⟨sv', rfl, k1, k2, .inr k3⟩
    · have e0 : setC L p q c = 2 := by unfold setC; rw [if_pos h1, if_neg hc]
      rw [e0, if_neg (by omega)]
      refine (set_bad t sv L m p q c (by simpa using hc) (by omega) w h).mono ?_
      rintro e w' ⟨rfl, hb⟩
      exact ⟨sv, rfl, h.below hb, only_of_below hb, .inl rfl⟩
  · have e0 : setC L a n c = 5 := by unfold setC; rw [if_neg h1]
    rw [e0, if_neg (by omega)]
    refine (set_range t sv L m a n c ha h1 w h).mono ?_
    rintro e w' ⟨rfl, hb⟩
    exact ⟨sv, rfl, h.below hb, only_of_below hb, .inl rfl⟩
theorem setR (t : Nat) (v : Value) (L : List Ch) (m : Ch) (a n : Int) (c : Ch) (w : World) (h : RefAt t v L m w) :
    Calls Try.prog 38 #[.pointer (some ⟨t, 0, none⟩), .int .i64 a, .int .i64 n, chV c] w (DidR t (setC L a n c) (setN L a n c) m w) := by
  unfold setN
  by_cases h1 : 0 ≤ a ∧ 0 ≤ n ∧ a + n ≤ (L.length : Int)
  · obtain ⟨p, rfl⟩ : ∃ p : Nat, a = p := ⟨a.toNat, by omega⟩
    obtain ⟨q, rfl⟩ : ∃ q : Nat, n = q := ⟨n.toNat, by omega⟩
    by_cases hc : mayC c = true
    · have e0 : setC L p q c = 0 := by unfold setC; rw [if_pos h1, if_pos hc]
      rw [e0, if_pos rfl]
      refine (rset_ok t v L m p q c (by omega) hc w h).mono ?_
      rintro e w' ⟨v', rfl, k1, k2⟩
      exact ⟨v', rfl, k1, k2⟩
    · have e0 : setC L p q c = 2 := by unfold setC; rw [if_pos h1, if_neg hc]
      rw [e0, if_neg (by omega)]
      refine (rset_bad t v L m p q c (by omega) (by simpa using hc) w h).mono ?_
      rintro e w' ⟨rfl, hb⟩
      exact ⟨v, rfl, h.below hb, only_of_below hb⟩
  · have e0 : setC L a n c = 5 := by unfold setC; rw [if_neg h1]
    rw [e0, if_neg (by omega)]
    refine (rset_range t v L m a n c (by omega) w h).mono ?_
    rintro e w' ⟨rfl, hb⟩
    exact ⟨v, rfl, h.below hb, only_of_below hb⟩
end Go.Proofs.Ytjakmekifpbldaa
