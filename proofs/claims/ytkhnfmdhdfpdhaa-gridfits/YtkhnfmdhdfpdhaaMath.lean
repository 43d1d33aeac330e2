/-
  What is proved here: clusters of a text: where they begin, how many there are (no program is named).
-/
import Derived.Test.YtkhnfmdhdfpdhaaRows
import Derived.Shelf.Abstract
namespace Go.Proofs.Ytkhnfmdhdfpdhaa
open Go.Shelf

/-- What a byte begins; 0: it may not be. -/
def kindI (x : Int) : Int :=
  if (97 ≤ x ∧ x ≤ 122) ∨ (65 ≤ x ∧ x ≤ 90) then 1 else if x = 32 then 3 else if 32 < x ∧ x ≤ 126 then 2 else if x = 9 then 4 else if x = 31 then 5
  else if x = 1 then 6 else if x = 2 then 7 else if x = 3 then 8 else 0
def letB (x : Int) : Bool := decide ((97 ≤ x ∧ x ≤ 122) ∨ (65 ≤ x ∧ x ≤ 90))
def accB (x : Int) : Bool := decide (x = 94 ∨ x = 96 ∨ x = 126)
/-- A byte of a text. -/
def bt (t : ByteArray) (k : Nat) : Int := if h : k < t.size then ((t[k]'h).toNat : Int) else 0
theorem bt_eq {t : ByteArray} {k : Nat} (h : k < t.size) : bt t k = ((t[k]'h).toNat : Int) := dif_pos h
theorem bt_no {t : ByteArray} {k : Nat} (h : ¬ k < t.size) : bt t k = 0 := dif_neg h
theorem bt_rng (t : ByteArray) (k : Nat) : 0 ≤ bt t k ∧ bt t k < 256 := by
  unfold bt
  split
  · rename_i h; have := (t[k]'h).toNat_lt; omega
  · omega
theorem acc_lt {t : ByteArray} {k : Nat} (h : accB (bt t k) = true) : k < t.size := by
  by_cases hk : k < t.size
  · exact hk
  · rw [bt_no hk] at h; exact absurd h (by decide)
/-- Where the cluster ends that begins at k. -/
def endN (t : ByteArray) (k : Nat) : Nat :=
  if kindI (bt t k) = 1 then (if accB (bt t (k + 1)) = true then (if accB (bt t (k + 2)) = true then k + 3 else k + 2) else k + 1) else k + 1
theorem endN_gt (t : ByteArray) (k : Nat) : k < endN t k ∧ endN t k ≤ k + 3 := by
  unfold endN
  repeat' split
  all_goals omega
theorem endN_le {t : ByteArray} {k : Nat} (h : k < t.size) : endN t k ≤ t.size := by
  unfold endN
  split
  · split
    · rename_i h1; have := acc_lt h1
      split
      · rename_i h2; have := acc_lt h2; omega
      · omega
    · omega
  · omega

/-- Where cluster i begins. -/
def st (t : ByteArray) : Nat → Nat
  | 0 => 0
  | i + 1 => if st t i < t.size then endN t (st t i) else st t i
theorem st_succ {t : ByteArray} {i : Nat} (h : st t i < t.size) : st t (i + 1) = endN t (st t i) := if_pos h
theorem st_le (t : ByteArray) : ∀ i, st t i ≤ t.size
  | 0 => Nat.zero_le _
  | i + 1 => by
    by_cases h : st t i < t.size
    · rw [st_succ h]; exact endN_le h
    · show (if st t i < t.size then endN t (st t i) else st t i) ≤ _
      rw [if_neg h]; exact st_le t i
theorem st_step (t : ByteArray) (i : Nat) : st t i ≤ st t (i + 1) := by
  by_cases h : st t i < t.size
  · rw [st_succ h]; have := (endN_gt t (st t i)).1; omega
  · show _ ≤ (if st t i < t.size then endN t (st t i) else st t i)
    rw [if_neg h]; exact Nat.le_refl _
theorem st_lt {t : ByteArray} {i : Nat} (h : st t i < t.size) : st t i < st t (i + 1) := by rw [st_succ h]; exact (endN_gt t _).1
theorem st_mono (t : ByteArray) {i j : Nat} (h : i ≤ j) : st t i ≤ st t j := by
  induction j with
  | zero => obtain rfl : i = 0 := by omega
            exact Nat.le_refl _
  | succ j ih =>
    by_cases e : i = j + 1
    · rw [e]; exact Nat.le_refl _
    · exact Nat.le_trans (ih (by omega)) (st_step t j)

/-- The first place in the list of beginnings that is the text's end. -/
def fst (t : ByteArray) : Nat → Nat → Nat
  | 0, i => i
  | n + 1, i => if st t i < t.size then fst t n (i + 1) else i
theorem fst_spec (t : ByteArray) : ∀ n i, t.size ≤ st t i + n → (∀ j, j < i → st t j < t.size) → st t (fst t n i) = t.size ∧ (∀ j, j < fst t n i → st t j < t.size) ∧ i ≤ fst t n i ∧ fst t n i ≤ i + n
  | 0, i, h, hj => ⟨by have := st_le t i; show st t i = _; omega, hj, Nat.le_refl _, Nat.le_refl _⟩
  | n + 1, i, h, hj => by
    show st t (if st t i < t.size then fst t n (i + 1) else i) = t.size ∧ _
    by_cases hi : st t i < t.size
    · obtain ⟨h1, h2, h3, h4⟩ := fst_spec t n (i + 1) (by have := st_lt hi; omega) (fun j hj' => by by_cases e : j = i; exact e ▸ hi; exact hj j (by omega))
      have e : fst t (n + 1) i = fst t n (i + 1) := if_pos hi
      rw [e, if_pos hi]
      exact ⟨h1, h2, by omega, by omega⟩
    · have e : fst t (n + 1) i = i := if_neg hi
      rw [e, if_neg hi]
      exact ⟨by have := st_le t i; omega, hj, Nat.le_refl _, by omega⟩
/-- How many clusters there are. -/
def num (t : ByteArray) : Nat := fst t t.size 0
theorem num_end (t : ByteArray) : st t (num t) = t.size := (fst_spec t t.size 0 (by omega) (fun _ h => by omega)).1
theorem num_lt {t : ByteArray} {j : Nat} (h : j < num t) : st t j < t.size := (fst_spec t t.size 0 (by omega) (fun _ h => by omega)).2.1 j h
theorem num_le (t : ByteArray) : num t ≤ t.size := by have := (fst_spec t t.size 0 (by omega) (fun _ h => by omega)).2.2.2; unfold num; omega
theorem lt_num {t : ByteArray} {j : Nat} (h : st t j < t.size) : j < num t := by
  by_cases hj : j < num t
  · exact hj
  · have := st_mono t (by omega : num t ≤ j); rw [num_end] at this; omega
/-- What is wrong with a text. -/
def wrongI (t : ByteArray) : Int := if 4096 < t.size then 3 else if ∃ k, k < t.size ∧ kindI (bt t k) = 0 then 4 else 0
theorem wrong_long {t : ByteArray} (h : 4096 < t.size) : wrongI t = 3 := if_pos h
theorem wrong_byte {t : ByteArray} (h : ¬ 4096 < t.size) {k : Nat} (hk : k < t.size) (h0 : kindI (bt t k) = 0) : wrongI t = 4 := by unfold wrongI; rw [if_neg h, if_pos ⟨k, hk, h0⟩]
theorem wrong_ok {t : ByteArray} (h : ¬ 4096 < t.size) (h0 : ∀ k, k < t.size → kindI (bt t k) ≠ 0) : wrongI t = 0 := by
  unfold wrongI; rw [if_neg h, if_neg (fun ⟨k, hk, e⟩ => h0 k hk e)]
theorem ok_size {t : ByteArray} (h : wrongI t = 0) : t.size ≤ 4096 := by
  unfold wrongI at h
  split at h
  · cases h
  · omega
/-- Cluster i, as cells. -/
def clC (t : ByteArray) (i : Nat) : List Value := [.int .i64 (st t i : Nat), .int .i64 (st t (i + 1) : Nat), .int .i64 (kindI (bt t (st t i)))]
def rowC (t : ByteArray) : Nat → List Value
  | 0 => []
  | i + 1 => rowC t i ++ clC t i
theorem rowC_len (t : ByteArray) : ∀ i, (rowC t i).length = i * 3
  | 0 => rfl
  | i + 1 => by show (rowC t i ++ clC t i).length = _; rw [List.length_append, rowC_len t i]; simp [clC]; omega
end Go.Proofs.Ytkhnfmdhdfpdhaa
