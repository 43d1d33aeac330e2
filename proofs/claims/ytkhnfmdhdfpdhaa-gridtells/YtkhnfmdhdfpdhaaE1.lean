/-
  What is proved here: clusters of a text: where they begin, how many there are (no program is named).
  What is proved here: what Em of metric answers of any byte, and the document's Em.
  What is proved here: whether a byte is in a text; the document's Em.
  What is proved here: the document's Em of any byte.
  What is proved here: how wide bytes are, as Width of metric and the document's Width tell it.
  What is proved here: Width of metric, the document's ByteWidth, TextWidth, Width.
  What is proved here: the law of a range over a function whose iterator lays private blocks of its own between two rounds (no program is named).
-/
import Derived.Test.YtkhnfmdhdfpdhaaRows
import Derived.Shelf.Abstract
import Derived.WalkKit
import Derived.WalkSpells
import Derived.LoopN
import Derived.RangeFuncNested
import Derived.Deep.Draws
namespace Go.Proofs.Ytkhnfmdhdfpdhaa
open Go.Shelf

/-- What a byte begins; 0: it may not be. -/
def kindI (x : Int) : Int :=
  if (97 ≤ x ∧ x ≤ 122) ∨ (65 ≤ x ∧ x ≤ 90) then 1 else if x = 32 then 3 else if 32 < x ∧ x ≤ 126 then 2 else if x = 9 then 4 else if x = 31 then 5
  else if x = 1 then 6 else if x = 2 then 7 else if x = 3 then 8 else 0
def letB (x : Int) : Bool := decide ((97 ≤ x ∧ x ≤ 122) ∨ (65 ≤ x ∧ x ≤ 90))
def accB (x : Int) : Bool := decide (x = 94 ∨ x = 96 ∨ x = 126)
/-- A byte of a text. -/
def bt (t : ByteArray) (k : Nat) : Int := if h : k < t.size then ((t[k]'h).toNat : Int) else 0
theorem bt_eq {t : ByteArray} {k : Nat} (h : k < t.size) : bt t k = ((t[k]'h).toNat : Int) := dif_pos h
theorem bt_no {t : ByteArray} {k : Nat} (h : ¬ k < t.size) : bt t k = 0 := dif_neg h
theorem bt_rng (t : ByteArray) (k : Nat) : 0 ≤ bt t k ∧ bt t k < 256 := by
  unfold bt
  split
  · rename_i h; have := (t[k]'h).toNat_lt; omega
  · omega
theorem acc_lt {t : ByteArray} {k : Nat} (h : accB (bt t k) = true) : k < t.size := by
  by_cases hk : k < t.size
  · exact hk
  · rw [bt_no hk] at h; exact absurd h (by decide)
/-- Where the cluster ends that begins at k. -/
def endN (t : ByteArray) (k : Nat) : Nat :=
  if kindI (bt t k) = 1 then (if accB (bt t (k + 1)) = true then (if accB (bt t (k + 2)) = true then k + 3 else k + 2) else k + 1) else k + 1
theorem endN_gt (t : ByteArray) (k : Nat) : k < endN t k ∧ endN t k ≤ k + 3 := by
  unfold endN
  repeat' split
  all_goals omega
theorem endN_le {t : ByteArray} {k : Nat} (h : k < t.size) : endN t k ≤ t.size := by
  unfold endN
  split
  · split
    · rename_i h1; have := acc_lt h1
      split
      · rename_i h2; have := acc_lt h2; omega
      · omega
    · omega
  · omega

/-- Where cluster i begins. -/
def st (t : ByteArray) : Nat → Nat
  | 0 => 0
  | i + 1 => if st t i < t.size then endN t (st t i) else st t i
theorem st_succ {t : ByteArray} {i : Nat} (h : st t i < t.size) : st t (i + 1) = endN t (st t i) := if_pos h
theorem st_le (t : ByteArray) : ∀ i, st t i ≤ t.size
  | 0 => Nat.zero_le _
  | i + 1 => by
    by_cases h : st t i < t.size
    · rw [st_succ h]; exact endN_le h
    · show (if st t i < t.size then endN t (st t i) else st t i) ≤ _
      rw [if_neg h]; exact st_le t i
theorem st_step (t : ByteArray) (i : Nat) : st t i ≤ st t (i + 1) := by
  by_cases h : st t i < t.size
  · rw [st_succ h]; have := (endN_gt t (st t i)).1; omega
  · show _ ≤ (if st t i < t.size then endN t (st t i) else st t i)
    rw [if_neg h]; exact Nat.le_refl _
theorem st_lt {t : ByteArray} {i : Nat} (h : st t i < t.size) : st t i < st t (i + 1) := by rw [st_succ h]; exact (endN_gt t _).1
theorem st_mono (t : ByteArray) {i j : Nat} (h : i ≤ j) : st t i ≤ st t j := by
  induction j with
  | zero => obtain rfl : i = 0 := by omega
            exact Nat.le_refl _
  | succ j ih =>
    by_cases e : i = j + 1
    · rw [e]; exact Nat.le_refl _
    · exact Nat.le_trans (ih (by omega)) (st_step t j)

/-- The first place in the list of beginnings that is the text's end. -/
def fst (t : ByteArray) : Nat → Nat → Nat
  | 0, i => i
  | n + 1, i => if st t i < t.size then fst t n (i + 1) else i
theorem fst_spec (t : ByteArray) : ∀ n i, t.size ≤ st t i + n → (∀ j, j < i → st t j < t.size) → st t (fst t n i) = t.size ∧ (∀ j, j < fst t n i → st t j < t.size) ∧ i ≤ fst t n i ∧ fst t n i ≤ i + n
  | 0, i, h, hj => ⟨by have := st_le t i; show st t i = _; omega, hj, Nat.le_refl _, Nat.le_refl _⟩
  | n + 1, i, h, hj => by
    show st t (if st t i < t.size then fst t n (i + 1) else i) = t.size ∧ _
    by_cases hi : st t i < t.size
    · obtain ⟨h1, h2, h3, h4⟩ := fst_spec t n (i + 1) (by have := st_lt hi; omega) (fun j hj' => by by_cases e : j = i; exact e ▸ hi; exact hj j (by omega))
      have e : fst t (n + 1) i = fst t n (i + 1) := if_pos hi
      rw [e, if_pos hi]
      exact ⟨h1, h2, by omega, by omega⟩
    · have e : fst t (n + 1) i = i := if_neg hi
      rw [e, if_neg hi]
      exact ⟨by have := st_le t i; omega, hj, Nat.le_refl _, by omega⟩
/-- How many clusters there are. -/
def num (t : ByteArray) : Nat := fst t t.size 0
theorem num_end (t : ByteArray) : st t (num t) = t.size := (fst_spec t t.size 0 (by omega) (fun _ h => by omega)).1
theorem num_lt {t : ByteArray} {j : Nat} (h : j < num t) : st t j < t.size := (fst_spec t t.size 0 (by omega) (fun _ h => by omega)).2.1 j h
theorem num_le (t : ByteArray) : num t ≤ t.size := by have := (fst_spec t t.size 0 (by omega) (fun _ h => by omega)).2.2.2; unfold num; omega
theorem lt_num {t : ByteArray} {j : Nat} (h : st t j < t.size) : j < num t := by
  by_cases hj : j < num t
  · exact hj
  · have := st_mono t (by omega : num t ≤ j); rw [num_end] at this; omega
/-- What is wrong with a text. -/
def wrongI (t : ByteArray) : Int := if 4096 < t.size then 3 else if ∃ k, k < t.size ∧ kindI (bt t k) = 0 then 4 else 0
theorem wrong_long {t : ByteArray} (h : 4096 < t.size) : wrongI t = 3 := if_pos h
theorem wrong_byte {t : ByteArray} (h : ¬ 4096 < t.size) {k : Nat} (hk : k < t.size) (h0 : kindI (bt t k) = 0) : wrongI t = 4 := by unfold wrongI; rw [if_neg h, if_pos ⟨k, hk, h0⟩]
theorem wrong_ok {t : ByteArray} (h : ¬ 4096 < t.size) (h0 : ∀ k, k < t.size → kindI (bt t k) ≠ 0) : wrongI t = 0 := by
  unfold wrongI; rw [if_neg h, if_neg (fun ⟨k, hk, e⟩ => h0 k hk e)]
theorem ok_size {t : ByteArray} (h : wrongI t = 0) : t.size ≤ 4096 := by
  unfold wrongI at h
  split at h
  · cases h
  · omega
/-- Cluster i, as cells. -/
def clC (t : ByteArray) (i : Nat) : List Value := [.int .i64 (st t i : Nat), .int .i64 (st t (i + 1) : Nat), .int .i64 (kindI (bt t (st t i)))]
def rowC (t : ByteArray) : Nat → List Value
  | 0 => []
  | i + 1 => rowC t i ++ clC t i
theorem rowC_len (t : ByteArray) : ∀ i, (rowC t i).length = i * 3
  | 0 => rfl
  | i + 1 => by show (rowC t i ++ clC t i).length = _; rw [List.length_append, rowC_len t i]; simp [clC]; omega
end Go.Proofs.Ytkhnfmdhdfpdhaa

namespace Go.Proofs.Ytkhnfmdhdfpdhaa
open Go.RowKit Go.Shelf

/-- The em of a byte, in eighths. -/
def emI (x : Int) : Int :=
  if x = 105 ∨ x = 106 ∨ x = 108 ∨ x = 39 ∨ x = 46 ∨ x = 44 ∨ x = 58 ∨ x = 59 ∨ x = 33 ∨ x = 124 then 2
  else if x = 102 ∨ x = 116 ∨ x = 114 ∨ x = 40 ∨ x = 41 ∨ x = 91 ∨ x = 93 ∨ x = 123 ∨ x = 125 ∨ x = 45 ∨ x = 34 ∨ x = 94 ∨ x = 95 ∨ x = 126 ∨ x = 96 ∨ x = 32 ∨ x = 73 then 3
  else if x = 109 ∨ x = 119 then 7 else if x = 77 ∨ x = 87 then 8 else if (97 ≤ x ∧ x ≤ 122) ∨ (48 ≤ x ∧ x ≤ 57) then 5 else if 32 < x ∧ x ≤ 126 then 6 else 0
theorem emI_rng (x : Int) : 0 ≤ emI x ∧ emI x ≤ 8 := by
  unfold emI
  repeat' split
  all_goals omega
theorem em_2 {x : Int} (h : x = 105 ∨ x = 106 ∨ x = 108 ∨ x = 39 ∨ x = 46 ∨ x = 44 ∨ x = 58 ∨ x = 59 ∨ x = 33 ∨ x = 124) : emI x = 2 := if_pos h

set_option maxRecDepth 100000 in
set_option maxHeartbeats 4000000 in
theorem em_any (x : Int) (w : World) : Calls Try.prog 92 #[.int .u8 x] w fun e w' => e = .returned (.int .i64 (emI x)) ∧ w' = w := by
  go_enter Try.func92, Try.ntmps92
  go_wp2
  all_goals go_ret
  all_goals refine ⟨?_, rfl⟩
  all_goals congr 2
  all_goals try simp only [beq_iff_eq, beq_eq_false_iff_ne, ne_eq] at *
  all_goals first | (subst_vars; rfl) | (unfold emI; repeat (first | rw [if_neg (by omega)] | rw [if_pos (by omega)]))
  all_goals first | rfl | (exfalso; omega)
end Go.Proofs.Ytkhnfmdhdfpdhaa

namespace Go.Proofs.Ytkhnfmdhdfpdhaa
open Go.RowKit Go.Shelf

/-- Is a byte in a text? -/
def inB (x : Int) (t : ByteArray) : Bool := t.data.toList.any (fun b => decide ((b.toNat : Int) = x))
theorem in_yes {x : Int} {t : ByteArray} {k : Nat} (h : k < t.size) (e : bt t k = x) : inB x t = true := by
  rw [bt_eq h] at e
  exact List.any_eq_true.2 ⟨t[k], by simp [ByteArray.getElem_eq_getElem_data], by simpa using e⟩
theorem in_no {x : Int} {t : ByteArray} (h : ∀ k, k < t.size → bt t k ≠ x) : inB x t = false := by
  refine List.any_eq_false.2 fun b hb => ?_
  obtain ⟨k, hk, rfl⟩ := List.getElem_of_mem hb
  have hk' : k < t.size := by simpa using hk
  have := h k hk'
  rw [bt_eq hk'] at this
  simpa [ByteArray.getElem_eq_getElem_data] using this

set_option maxRecDepth 100000 in
set_option maxHeartbeats 1000000 in
theorem in_any (x : Int) (t : ByteArray) (w : World) (ht : t.size ≤ 4096) : Calls Try.prog 99 #[.int .u8 x, .string t] w fun e w' => e = .returned (.bool (inB x t)) ∧ w' = w := by
  have hY : Hid (∀ k, k < t.size → bt t k = x → inB x t = true) := fun k hk e => in_yes hk e
  have hN : Hid ((∀ k, k < t.size → bt t k ≠ x) → inB x t = false) := in_no
  generalize inB x t = n at hY hN ⊢
  go_enter Try.func99, Try.ntmps99
  go_wp2
  go_loopw [5] (fun i wr => ∃ k : Nat, k ≤ t.size ∧ i = .int .i64 k ∧ wr = w ∧ Hid (∀ j, j < k → bt t j ≠ x)) (fun i _ => t.size - (intOf i).toNat)
  case atStart => exact ⟨0, by omega, rfl, rfl, fun j hj => by omega⟩
  case round =>
    obtain ⟨k, hk, rfl, rfl, hall⟩ := hrel
    by_cases hlt : k < t.size
    · have hb : Hid (bt t k = ((t[k]'hlt).toNat : Int)) := bt_eq hlt
      go_wp2_with fail
      · rename_i hv
        have hn := hY.out k hlt (hb.out.trans (by simpa using hv))
        subst hn
        go_ret
        exact ⟨rfl, rfl⟩
      · rename_i hv
        have hyes : Hid (∀ j, j < k + 1 → bt t j ≠ x) := fun j hj => by
          by_cases h : j < k
          · exact hall.out j h
          · obtain rfl : j = k := by omega
            rw [hb.out]
            simpa using hv
        clear hY hN hall hb hv
        go_roundw
        case rel => exact ⟨k + 1, by omega, by simp, by first | rfl | trivial, hyes⟩
        case measure => simp [intOf]; omega
    · have hn := hN.out (fun j hj => hall.out j (by omega))
      clear hY hN hall
      subst hn
      go_wp2_with fail
      go_ret
      exact ⟨rfl, rfl⟩

end Go.Proofs.Ytkhnfmdhdfpdhaa

namespace Go.Proofs.Ytkhnfmdhdfpdhaa
open Go.RowKit Go.Shelf

theorem in_a_fin : ∀ n : Fin 256, inB ((n : Nat) : Int) { data := #[105, 106, 108, 39, 46, 44, 58, 59, 33, 124] } = decide (((n : Nat) : Int) = 105 ∨ ((n : Nat) : Int) = 106 ∨ ((n : Nat) : Int) = 108 ∨ ((n : Nat) : Int) = 39 ∨ ((n : Nat) : Int) = 46 ∨ ((n : Nat) : Int) = 44 ∨ ((n : Nat) : Int) = 58 ∨ ((n : Nat) : Int) = 59 ∨ ((n : Nat) : Int) = 33 ∨ ((n : Nat) : Int) = 124) := by decide +kernel
theorem in_a (x : Int) (h : 0 ≤ x ∧ x < 256) : inB x { data := #[105, 106, 108, 39, 46, 44, 58, 59, 33, 124] } = decide (x = 105 ∨ x = 106 ∨ x = 108 ∨ x = 39 ∨ x = 46 ∨ x = 44 ∨ x = 58 ∨ x = 59 ∨ x = 33 ∨ x = 124) := by
  have := in_a_fin ⟨x.toNat, by omega⟩
  have e : ((x.toNat : Nat) : Int) = x := by omega
  simp only [e] at this
  exact this
theorem in_b_fin : ∀ n : Fin 256, inB ((n : Nat) : Int) { data := #[102, 116, 114, 40, 41, 91, 93, 123, 125, 45, 34, 94, 95, 126, 32, 73] } = decide (((n : Nat) : Int) = 102 ∨ ((n : Nat) : Int) = 116 ∨ ((n : Nat) : Int) = 114 ∨ ((n : Nat) : Int) = 40 ∨ ((n : Nat) : Int) = 41 ∨ ((n : Nat) : Int) = 91 ∨ ((n : Nat) : Int) = 93 ∨ ((n : Nat) : Int) = 123 ∨ ((n : Nat) : Int) = 125 ∨ ((n : Nat) : Int) = 45 ∨ ((n : Nat) : Int) = 34 ∨ ((n : Nat) : Int) = 94 ∨ ((n : Nat) : Int) = 95 ∨ ((n : Nat) : Int) = 126 ∨ ((n : Nat) : Int) = 32 ∨ ((n : Nat) : Int) = 73) := by decide +kernel
theorem in_b (x : Int) (h : 0 ≤ x ∧ x < 256) : inB x { data := #[102, 116, 114, 40, 41, 91, 93, 123, 125, 45, 34, 94, 95, 126, 32, 73] } = decide (x = 102 ∨ x = 116 ∨ x = 114 ∨ x = 40 ∨ x = 41 ∨ x = 91 ∨ x = 93 ∨ x = 123 ∨ x = 125 ∨ x = 45 ∨ x = 34 ∨ x = 94 ∨ x = 95 ∨ x = 126 ∨ x = 32 ∨ x = 73) := by
  have := in_b_fin ⟨x.toNat, by omega⟩
  have e : ((x.toNat : Nat) : Int) = x := by omega
  simp only [e] at this
  exact this

set_option maxRecDepth 100000 in
set_option maxHeartbeats 1000000 in
theorem rem_any (x : Int) (h : 0 ≤ x ∧ x < 256) (w : World) : Calls Try.prog 82 #[.int .u8 x] w fun e w' => e = .returned (.int .i64 (emI x)) ∧ w' = w := by
  have q1 := in_a x h
  have q2 := in_b x h
  by_cases b1 : x = 105 ∨ x = 106 ∨ x = 108 ∨ x = 39 ∨ x = 46 ∨ x = 44 ∨ x = 58 ∨ x = 59 ∨ x = 33 ∨ x = 124
  · rw [decide_eq_true b1] at q1
    rw [em_2 b1]
    clear b1 q2 h
    go_enter Try.func82, Try.ntmps82
    go_wp2_with (go_at_call 99; refine (in_any _ _ _ (by decide)).mono ?_; rw [q1]; rintro e w' ⟨rfl, hww⟩; subst w')
    go_ret
    exact ⟨rfl, rfl⟩
  · rw [decide_eq_false b1] at q1
    by_cases b2 : x = 102 ∨ x = 116 ∨ x = 114 ∨ x = 40 ∨ x = 41 ∨ x = 91 ∨ x = 93 ∨ x = 123 ∨ x = 125 ∨ x = 45 ∨ x = 34 ∨ x = 94 ∨ x = 95 ∨ x = 126 ∨ x = 32 ∨ x = 73
    · rw [decide_eq_true b2] at q2
      have e1 : emI x = 3 := by unfold emI; rw [if_neg b1, if_pos (by omega)]
      rw [e1]
      clear b1 b2 e1 h
      go_enter Try.func82, Try.ntmps82
      go_wp2_with (go_at_call 99; refine (in_any _ _ _ (by decide)).mono ?_; (first | rw [q1] | rw [q2]); rintro e w' ⟨rfl, hww⟩; subst w')
      go_ret
      exact ⟨rfl, rfl⟩
    · rw [decide_eq_false b2] at q2
      have c1 : Hid (¬ (x = 105 ∨ x = 106 ∨ x = 108 ∨ x = 39 ∨ x = 46 ∨ x = 44 ∨ x = 58 ∨ x = 59 ∨ x = 33 ∨ x = 124)) := b1
      have c2 : Hid (¬ (x = 102 ∨ x = 116 ∨ x = 114 ∨ x = 40 ∨ x = 41 ∨ x = 91 ∨ x = 93 ∨ x = 123 ∨ x = 125 ∨ x = 45 ∨ x = 34 ∨ x = 94 ∨ x = 95 ∨ x = 126 ∨ x = 32 ∨ x = 73)) := b2
      clear b1 b2
      go_enter Try.func82, Try.ntmps82
      go_wp2_with (go_at_call 99; refine (in_any _ _ _ (by decide)).mono ?_; (first | rw [q1] | rw [q2]); rintro e w' ⟨rfl, hww⟩; subst w')
      all_goals go_ret
      all_goals refine ⟨?_, rfl⟩
      all_goals have d1 := c1.out
      all_goals have d2 := c2.out
      all_goals clear c1 c2 q1 q2
      all_goals congr 2
      all_goals try simp only [beq_iff_eq, beq_eq_false_iff_ne, ne_eq] at *
      all_goals first | (subst_vars; rfl) | (unfold emI; repeat (first | rw [if_neg (by omega)] | rw [if_pos (by omega)]))
      all_goals first | rfl | (exfalso; omega)

end Go.Proofs.Ytkhnfmdhdfpdhaa

namespace Go.Proofs.Ytkhnfmdhdfpdhaa
open Go.RowKit Go.Shelf

/-- The width of a byte of a size. -/
def bw (x s : Int) : Int := (emI x * s) / 8
theorem bw_rng (x : Int) {s : Int} (h0 : 0 ≤ s) (h1 : s ≤ 64) : 0 ≤ bw x s ∧ bw x s ≤ 64 := by
  have he := emI_rng x
  unfold bw
  have a : 0 ≤ emI x * s := Int.mul_nonneg he.1 h0
  have b : emI x * s ≤ 8 * 64 := Int.mul_le_mul he.2 h1 h0 (by omega)
  omega
theorem bw_mul (x : Int) {s : Int} (h0 : 0 ≤ s) (h1 : s ≤ 64) : 0 ≤ emI x * s ∧ emI x * s ≤ 512 := by
  have he := emI_rng x
  have a : 0 ≤ emI x * s := Int.mul_nonneg he.1 h0
  have b : emI x * s ≤ 8 * 64 := Int.mul_le_mul he.2 h1 h0 (by omega)
  omega
/-- The widths of the first bytes of a text. -/
def tw (t : ByteArray) (s : Int) : Nat → Int
  | 0 => 0
  | k + 1 => tw t s k + bw (bt t k) s
theorem tw_rng (t : ByteArray) {s : Int} (h0 : 0 ≤ s) (h1 : s ≤ 64) : ∀ k, 0 ≤ tw t s k ∧ tw t s k ≤ 64 * (k : Int)
  | 0 => by simp [tw]
  | k + 1 => by
    have := tw_rng t h0 h1 k
    have := bw_rng (bt t k) h0 h1
    show 0 ≤ tw t s k + bw (bt t k) s ∧ tw t s k + bw (bt t k) s ≤ _
    omega
def widthI (t : ByteArray) (s : Int) : Int := tw t s t.size

set_option maxRecDepth 100000 in
set_option maxHeartbeats 1000000 in
theorem width_any (t : ByteArray) (s : Int) (h0 : 0 ≤ s) (h1 : s ≤ 64) (ht : t.size ≤ 4096) (w : World) : Calls Try.prog 93 #[.string t, .int .i64 s] w fun e w' => e = .returned (.int .i64 (widthI t s)) ∧ w' = w := by
  have hW : Hid (tw t s t.size = widthI t s) := rfl
  go_enter Try.func93, Try.ntmps93
  go_wp2
  go_loopw [5, 9] (fun n i wr => ∃ k : Nat, k ≤ t.size ∧ i = .int .i64 k ∧ n = .int .i64 (tw t s k) ∧ wr = w) (fun _ i _ => t.size - (intOf i).toNat)
  case atStart => exact ⟨0, by omega, rfl, rfl, rfl⟩
  case round =>
    obtain ⟨k, hk, rfl, rfl, rfl⟩ := hrel
    by_cases hlt : k < t.size
    · have hb := bt_eq hlt
      have hm := bw_mul (bt t k) h0 h1
      have hq : Hid (tw t s (k + 1) = tw t s k + emI (bt t k) * s / 8) := rfl
      have hr := tw_rng t h0 h1 k
      have hE := em_any (bt t k) wr
      rw [hb] at hm hq hE
      generalize emI ((t[k]'hlt).toNat : Int) = e at hm hq hE
      generalize hx : tw t s k = x at hr hq
      clear hx hb
      obtain ⟨hm0, hm1⟩ := hm
      obtain ⟨hr0, hr1⟩ := hr
      have hd : (e * s).tdiv 8 = e * s / 8 := Int.tdiv_eq_ediv_of_nonneg hm0
      go_wp2_with (go_at_call 92; refine hE.mono ?_; rintro e w' ⟨rfl, hww⟩; subst w')
      go_roundw
      case rel => exact ⟨k + 1, by omega, by simp, by rw [hq.out], by first | rfl | trivial⟩
      case measure => simp [intOf]; omega
    · obtain rfl : k = t.size := by omega
      rw [hW.out]
      clear hW
      go_wp2_with fail
      go_ret
      exact ⟨rfl, rfl⟩

end Go.Proofs.Ytkhnfmdhdfpdhaa

namespace Go.Proofs.Ytkhnfmdhdfpdhaa
open Go.RowKit Go.Shelf

set_option maxRecDepth 100000 in
set_option maxHeartbeats 1000000 in
theorem rbyteWidth_any (x s : Int) (hx : 0 ≤ x ∧ x < 256) (h0 : 0 ≤ s) (h1 : s ≤ 64) (w : World) : Calls Try.prog 67 #[.int .u8 x, .int .i64 s] w fun e w' => e = .returned (.int .i64 (bw x s)) ∧ w' = w := by
  have hE := rem_any x hx w
  obtain ⟨hm0, hm1⟩ := bw_mul x h0 h1
  have hq : bw x s = emI x * s / 8 := rfl
  rw [hq]
  clear hq
  generalize emI x = e at *
  have hd : (e * s).tdiv 8 = e * s / 8 := Int.tdiv_eq_ediv_of_nonneg hm0
  go_enter Try.func67, Try.ntmps67
  go_wp2_with (go_at_call 82; refine hE.mono ?_; rintro e w' ⟨rfl, hww⟩; subst w')
  go_ret
  exact ⟨rfl, rfl⟩

set_option maxRecDepth 100000 in
set_option maxHeartbeats 1000000 in
theorem rtextWidth_any (t : ByteArray) (s : Int) (h0 : 0 ≤ s) (h1 : s ≤ 64) (ht : t.size ≤ 4096) (w : World) : Calls Try.prog 68 #[.string t, .int .i64 s] w fun e w' => e = .returned (.int .i64 (widthI t s)) ∧ w' = w := by
  have hW : Hid (tw t s t.size = widthI t s) := rfl
  go_enter Try.func68, Try.ntmps68
  go_wp2
  go_loopw [5, 6] (fun n i wr => ∃ k : Nat, k ≤ t.size ∧ i = .int .i64 k ∧ n = .int .i64 (tw t s k) ∧ wr = w) (fun _ i _ => t.size - (intOf i).toNat)
  case atStart => exact ⟨0, by omega, rfl, rfl, rfl⟩
  case round =>
    obtain ⟨k, hk, rfl, rfl, rfl⟩ := hrel
    by_cases hlt : k < t.size
    · have hb := bt_eq hlt
      obtain ⟨hm0, hm1⟩ := bw_rng (bt t k) h0 h1
      have hq : Hid (tw t s (k + 1) = tw t s k + bw (bt t k) s) := rfl
      obtain ⟨hr0, hr1⟩ := tw_rng t h0 h1 k
      have hE := rbyteWidth_any (bt t k) s (bt_rng t k) h0 h1 wr
      generalize bw (bt t k) s = y at hm0 hm1 hq hE
      rw [hb] at hE
      generalize hx : tw t s k = x at hr0 hr1 hq
      clear hx hb
      go_wp2_with (go_at_call 67; refine hE.mono ?_; rintro e w' ⟨rfl, hww⟩; subst w')
      go_roundw
      case rel => exact ⟨k + 1, by omega, by simp, by rw [hq.out], by first | rfl | trivial⟩
      case measure => simp [intOf]; omega
    · obtain rfl : k = t.size := by omega
      rw [hW.out]
      clear hW
      go_wp2_with fail
      go_ret
      exact ⟨rfl, rfl⟩

end Go.Proofs.Ytkhnfmdhdfpdhaa

namespace Go.Proofs.Ytkhnfmdhdfpdhaa
open Go.RowKit

/-- No block. -/
def Noth : Nat → Prop := fun _ => False

/-- What lay outside X lies as it lay. -/
structure Turns (X : Nat → Prop) (W W' : World) : Prop where
  os : W'.os = W.os
  tape : W'.tape = W.tape
  output : W'.output = W.output
  size : W.heap.size ≤ W'.heap.size
  block : ∀ k, k < W.heap.size → ¬ X k → W'.heap[k]? = W.heap[k]?

theorem Turns.refl (X : Nat → Prop) (W : World) : Turns X W W := ⟨rfl, rfl, rfl, Nat.le_refl _, fun _ _ _ => rfl⟩
theorem Turns.trans {X : Nat → Prop} {A B C : World} (h : Turns X A B) (k : Turns X B C) : Turns X A C :=
  ⟨k.os.trans h.os, k.tape.trans h.tape, k.output.trans h.output, Nat.le_trans h.size k.size, fun i hi hx => (k.block i (Nat.lt_of_lt_of_le hi h.size) hx).trans (h.block i hi hx)⟩
/-- .. where the second step turns also what the first has laid. -/
theorem Turns.trans' {X Y : Nat → Prop} {A B C : World} (h : Turns X A B) (k : Turns Y B C) (hY : ∀ i, Y i → X i ∨ A.heap.size ≤ i) : Turns X A C :=
  ⟨k.os.trans h.os, k.tape.trans h.tape, k.output.trans h.output, Nat.le_trans h.size k.size, fun i hi hx =>
    (k.block i (Nat.lt_of_lt_of_le hi h.size) (fun hy => (hY i hy).elim hx (fun h' => by omega))).trans (h.block i hi hx)⟩
theorem Turns.mono {X Y : Nat → Prop} {A B : World} (h : Turns X A B) (hY : ∀ i, X i → Y i) : Turns Y A B :=
  ⟨h.os, h.tape, h.output, h.size, fun i hi hy => h.block i hi (fun hx => hy (hY i hx))⟩
theorem Turns.alloc (X : Nat → Prop) (W : World) (o : Obj) : Turns X W (W.alloc o) :=
  ⟨rfl, rfl, rfl, by simp, fun k hk _ => Below.heap_alloc _ _ _ hk⟩
theorem Turns.setCell {X : Nat → Prop} (W : World) {p : Addr} (hp : X p.block) (u : Value) : Turns X W (W.setCell p u) :=
  ⟨rfl, rfl, rfl, by simp, fun k _ hk => Below.heap_setCell _ _ _ _ (fun e => hk (e ▸ hp))⟩
theorem Turns.putObj {X : Nat → Prop} (W : World) {r : Nat} (hp : X r) (o : Obj) : Turns X W (W.putObj r o) :=
  ⟨rfl, rfl, rfl, by simp, fun k _ hk => World.putObj_heap_other (fun e => hk (e ▸ hp))⟩
theorem Turns.drew (X : Nat → Prop) (W : World) : Turns X W W.drew := ⟨rfl, rfl, rfl, Nat.le_refl _, fun _ _ _ => rfl⟩
theorem Turns.drewN (X : Nat → Prop) (W : World) (n : Nat) : Turns X W (W.drewN n) := ⟨rfl, rfl, rfl, Nat.le_refl _, fun _ _ _ => rfl⟩
/-- Where only new blocks are turned. -/
theorem Turns.below {X : Nat → Prop} {W W' : World} (h : Turns X W W') {n : Nat} (hn : n ≤ W.heap.size) (hX : ∀ k, X k → n ≤ k) : Below n W W' :=
  ⟨h.os, h.tape, h.output, h.size, fun k hk => h.block k (by omega) (fun hx => by have := hX k hx; omega)⟩
theorem Turns.of_below {W W' : World} (h : Below W.heap.size W W') : Turns Noth W W' := ⟨h.os, h.tape, h.output, h.size, fun k hk _ => h.block k hk⟩

/-- What lies in X lies as it lay. -/
structure Keeps (X : Nat → Prop) (W W' : World) : Prop where
  size : W.heap.size ≤ W'.heap.size
  block : ∀ k, X k → k < W.heap.size → W'.heap[k]? = W.heap[k]?

theorem Keeps.refl (X : Nat → Prop) (W : World) : Keeps X W W := ⟨Nat.le_refl _, fun _ _ _ => rfl⟩
theorem Keeps.trans {X : Nat → Prop} {A B C : World} (h : Keeps X A B) (k : Keeps X B C) : Keeps X A C :=
  ⟨Nat.le_trans h.size k.size, fun i hx hi => (k.block i hx (Nat.lt_of_lt_of_le hi h.size)).trans (h.block i hx hi)⟩
theorem Keeps.mono {X Y : Nat → Prop} {A B : World} (h : Keeps X A B) (hY : ∀ i, Y i → X i) : Keeps Y A B := ⟨h.size, fun k hk hs => h.block k (hY k hk) hs⟩
theorem Keeps.of_turns {X Y : Nat → Prop} {A B : World} (h : Turns Y A B) (hd : ∀ k, X k → ¬ Y k) : Keeps X A B := ⟨h.size, fun k hk hs => h.block k hs (hd k hk)⟩
theorem Keeps.get {X : Nat → Prop} {A B : World} (h : Keeps X A B) {k : Nat} {o : Obj} (hx : X k) (ho : A.heap[k]? = some o) : B.heap[k]? = some o :=
  (h.block k hx (Array.getElem?_eq_some_iff.1 ho).1).trans ho

/-- What is said abides whatever turns X, or lays new blocks; these may be private from then on. -/
def Steady (J : Nat → (Nat → Prop) → World → Prop) : Prop :=
  ∀ (i : Nat) (X X' : Nat → Prop) (W W' : World), J i X W → Turns X W W' → (∀ k, X' k → X k ∨ (W.heap.size ≤ k ∧ k < W'.heap.size)) → J i X' W'

/-- An iterator: N rounds, round i at the values 'enc i'; R: what it reads, at all times. -/
def Gives (P : Program) (g : Nat) (lb : Array Value) (N : Nat) (enc : Nat → Array Value) (R : World → Prop) : Prop :=
  ∀ (l : Nat) (J Jx : Nat → (Nat → Prop) → World → Prop) (W : World), Steady J → Steady Jx → (∀ i X W, J i X W → R W) →
    (∀ (i : Nat) (X : Nat → Prop) (W1 : World), i < N → J i X W1 → YieldAt Fence.wide 0 P l (enc i) W1 fun e W' => Keeps X W1 W' ∧
      ((e = .returned (.bool true) ∧ J (i + 1) X W') ∨ (e = .returned (.bool false) ∧ Jx i X W'))) →
    J 0 Noth W →
    Calls P g (#[.func (.yield l) #[] #[]] ++ lb) W fun e W' => (∃ v, e = .returned v) ∧ (J N Noth W' ∨ ∃ i, i < N ∧ Jx i Noth W')

/-- How a round's body may be left. -/
def leftBy (I : Nat → (Nat → Prop) → World → Prop) (Ix : Code → Nat → (Nat → Prop) → World → Prop) (i : Nat) (X : Nat → Prop) (W : World) : Exit → Act → World → Prop
  | .normal, _, W' => Keeps X W W' ∧ I (i + 1) X W'
  | .ret, _, W' => Keeps X W W' ∧ Ix .ret i X W'
  | .exit id, _, W' => Keeps X W W' ∧ Ix (.exit id) i X W'
  | .goto t, _, W' => Keeps X W W' ∧ Ix (.goto t) i X W'
  | .panic _, _, _ => False
  | .outgrown, _, _ => False

theorem wp_range {P : Program} {g : Operand} {ps : Array Tmp} {assign body : Code} {Q : Exit → Act → World → Prop} {a : Act} {w : World} {gf : Nat} {lb : Array Value}
    (hg : a.eval g = .func (.func gf) #[] lb) (eg : ∀ args w, (callFunc gf args).run P w = .ok (.enter gf args) w)
    {N : Nat} {enc : Nat → Array Value} {R : World → Prop} (hseq : Gives P gf lb N enc R) (hps : ∀ i, (enc i).size = ps.size)
    (I : Nat → (Nat → Prop) → World → Prop) (Ix : Code → Nat → (Nat → Prop) → World → Prop) (Ia : Act → Nat → (Nat → Prop) → World → Prop)
    (hI : Steady I) (hIx : ∀ c, Steady (Ix c)) (hIa : ∀ a', Steady (Ia a')) (hR : ∀ i X W, I i X W → R W) (h0 : I 0 Noth w)
    (hassign : ∀ (l i : Nat) (X : Nat → Prop) (W : World) (K : Act → World → Prop), i < N → I i X W → (∀ a' W', Keeps X W W' → Ia a' i X W' → K a' W') →
      assign.wpIn (Fence.wide.inRound l) 0 P (Exit.then K (fun _ _ _ => False)) { tmps := (ps.zip (enc i)).foldl (fun t (p, v) => t.setIfInBounds p v) a.tmps, defers := [] } W)
    (hbody : ∀ (l i : Nat) (X : Nat → Prop) (a' : Act) (W : World), i < N → Ia a' i X W → body.wpIn (Fence.wide.inRound l) 0 P (leftBy I Ix i X W) a' W)
    (hdone : ∀ (D : Nat) (W : World), w.heap.size ≤ D → I N (fun k => k = D) W → W.heap[D]? = some (.deferred (some [])) → Q .normal { a with defers := { target := .collected D, args := #[] } :: a.defers } W)
    (hstop : ∀ (D : Nat) (c : Code) (i : Nat) (W : World), w.heap.size ≤ D → i < N → Ix c i (fun k => k = D) W → W.heap[D]? = some (.deferred (some [])) → c.wpIn Fence.wide 0 P Q { a with defers := { target := .collected D, args := #[] } :: a.defers } W) :
    (Code.rangeFunc g ps assign body).wpIn Fence.wide 0 P Q a w := by
  refine wpIn_rangeFunc ?_
  intro fn hfn
  obtain ⟨rec, hrec⟩ : ∃ rec : LoopState → Option Code → Loop, rec = fun st pe => { state := st, pending := pe, fn, tmps := a.tmps, params := ps, assign, body, defers := w.heap.size } := ⟨_, rfl⟩
  obtain ⟨D, hD⟩ : ∃ D, D = w.heap.size := ⟨_, rfl⟩
  obtain ⟨l, hl⟩ : ∃ l, l = w.heap.size + 1 := ⟨_, rfl⟩
  obtain ⟨W1, hW1⟩ : ∃ W1, (w.alloc (.deferred (some []))).alloc (.loop (rec .ready none)) = W1 := ⟨_, rfl⟩
  have hL1 : W1.heap[l]? = some (.loop (rec .ready none)) := by
    rw [← hW1, hl]; have := World.alloc_heap_new (w.alloc (.deferred (some []))) (.loop (rec .ready none)); rwa [World.size_alloc] at this
  have hK1 : W1.heap[D]? = some (.deferred (some [])) := by
    rw [← hW1, hD]; exact (Below.heap_alloc _ _ _ (by simp)).trans (World.alloc_heap_new w _)
  have hT1 : Turns Noth w W1 := by rw [← hW1]; exact (Turns.alloc _ _ _).trans (Turns.alloc _ _ _)
  refine ⟨l, [{ target := .collected D, args := #[] }], W1, { target := .fn (.func gf) lb, args := #[.func (.yield l) #[] #[]] }, W1, gf, #[.func (.yield l) #[] #[]] ++ lb, W1, ?_, ?_, ?_, ?_, (fun h => (by cases h)), ?_⟩
  · rw [← hW1, hrec, hl, hD]; exact run_enterLoop_outer _ _ _ _ _
  · simp only [resolve, hg]
    simp [go_sem]
  · intro f' _; trivial
  · simp [invoke, go_sem, eg]
  · have hDl : D ≠ l := by omega
    refine callsIn_wide.2 ((hseq l
      (fun i X W => I i (fun k => X k ∨ k = l ∨ k = D) W ∧ W.heap[l]? = some (.loop (rec .ready none)) ∧ W.heap[D]? = some (.deferred (some [])) ∧ ¬ X l ∧ ¬ X D)
      (fun i X W => ∃ c, Ix c i (fun k => X k ∨ k = l ∨ k = D) W ∧ W.heap[l]? = some (.loop (rec .done (some c))) ∧ W.heap[D]? = some (.deferred (some [])) ∧ ¬ X l ∧ ¬ X D)
      W1 ?_ ?_ (fun i X W h => hR _ _ _ h.1) ?_ ⟨?_, hL1, hK1, fun h => h, fun h => h⟩).mono ?_)
    · rintro i X X' A B ⟨hi, hla, hda, hxl, hxd⟩ ht hx
      have sl := (Array.getElem?_eq_some_iff.1 hla).1
      have sd := (Array.getElem?_eq_some_iff.1 hda).1
      refine ⟨hI i _ _ A B hi (ht.mono (fun _ h => .inl h)) ?_, (ht.block l sl hxl).trans hla, (ht.block D sd hxd).trans hda, ?_, ?_⟩
      · rintro k (h | h)
        · exact (hx k h).elim (fun h => .inl (.inl h)) .inr
        · exact .inl (.inr h)
      · intro h; exact (hx l h).elim hxl (fun h => by omega)
      · intro h; exact (hx D h).elim hxd (fun h => by omega)
    · rintro i X X' A B ⟨c, hi, hla, hda, hxl, hxd⟩ ht hx
      have sl := (Array.getElem?_eq_some_iff.1 hla).1
      have sd := (Array.getElem?_eq_some_iff.1 hda).1
      refine ⟨c, hIx c i _ _ A B hi (ht.mono (fun _ h => .inl h)) ?_, (ht.block l sl hxl).trans hla, (ht.block D sd hxd).trans hda, ?_, ?_⟩
      · rintro k (h | h)
        · exact (hx k h).elim (fun h => .inl (.inl h)) .inr
        · exact .inl (.inr h)
      · intro h; exact (hx l h).elim hxl (fun h => by omega)
      · intro h; exact (hx D h).elim hxd (fun h => by omega)
    · -- one round
      rintro i X W hiN ⟨hi, hlw, hdw, hxl, hxd⟩
      have hy := run_yield (P := P) (args := enc i) hlw (by rw [hrec]; exact hps i)
      rw [hrec] at hy
      refine ⟨fn, _, assign, body, hy, roundIn_of_wpIn hfn (hassign l i _ W _ hiN hi ?_)⟩
      clear hy
      intro a' Wa hka hia
      have hla := hka.get (.inr (.inl rfl)) hlw
      have hda := hka.get (.inr (.inr rfl)) hdw
      have sla := (Array.getElem?_eq_some_iff.1 hla).1
      refine ⟨_, run_beginRound hla (by rw [hrec]), ?_⟩
      obtain ⟨Wb, hWb⟩ : ∃ Wb, Wa.putObj l (.loop { rec .ready none with state := .busy }) = Wb := ⟨_, rfl⟩
      rw [hWb]
      have hlb : Wb.heap[l]? = some (.loop { rec .ready none with state := .busy }) := by rw [← hWb]; exact World.putObj_heap_same sla
      have hdb : Wb.heap[D]? = some (.deferred (some [])) := by rw [← hWb]; exact (World.putObj_heap_other hDl).trans hda
      have hib : Ia a' i (fun k => X k ∨ k = l ∨ k = D) Wb := by
        rw [← hWb]; exact hIa a' i _ _ Wa _ hia (Turns.putObj Wa (.inr (.inl rfl)) _) (fun k h => .inl h)
      have hkb : Keeps X W Wb := by
        rw [← hWb]; exact (hka.mono (fun _ h => .inl h)).trans (Keeps.of_turns (Turns.putObj (X := fun k => k = l) Wa rfl _) (fun k hk e => hxl (e ▸ hk)))
      refine wpIn_mono (hbody l i _ a' Wb hiN hib) ?_
      have fin : ∀ (jump : Option Code) (W3 : World), Keeps (fun k => X k ∨ k = l ∨ k = D) Wb W3 →
          (Instr.endRound l jump).run P W3 = .ok (.bool jump.isNone) (W3.putObj l (.loop (rec (if jump.isNone then .ready else .done) jump))) ∧
          (W3.putObj l (.loop (rec (if jump.isNone then .ready else .done) jump))).heap[l]? = some (.loop (rec (if jump.isNone then .ready else .done) jump)) ∧
          (W3.putObj l (.loop (rec (if jump.isNone then .ready else .done) jump))).heap[D]? = some (.deferred (some [])) ∧
          Keeps X W (W3.putObj l (.loop (rec (if jump.isNone then .ready else .done) jump))) := fun jump W3 hk3 => by
        have hl3 := hk3.get (.inr (.inl rfl)) hlb
        have hd3 := hk3.get (.inr (.inr rfl)) hdb
        have := run_endRound (P := P) jump hl3
        rw [hrec] at this ⊢
        exact ⟨this, World.putObj_heap_same (Array.getElem?_eq_some_iff.1 hl3).1, (World.putObj_heap_other hDl).trans hd3,
          (hkb.trans (hk3.mono (fun _ h => .inl h))).trans (Keeps.of_turns (Turns.putObj (X := fun k => k = l) W3 rfl _) (fun k hk e => hxl (e ▸ hk)))⟩
      rintro e a3 W3 hp
      cases e with
      | normal =>
        obtain ⟨hk3, hi3⟩ := hp
        obtain ⟨hr, hl4, hd4, hk4⟩ := fin none W3 hk3
        exact ⟨_, _, hr, hk4, .inl ⟨rfl, hI _ _ _ _ _ hi3 (Turns.putObj W3 (.inr (.inl rfl)) _) (fun k h => .inl h), hl4, hd4, hxl, hxd⟩⟩
      | ret =>
        obtain ⟨hk3, hi3⟩ := hp
        obtain ⟨hr, hl4, hd4, hk4⟩ := fin (some .ret) W3 hk3
        exact ⟨_, _, hr, hk4, .inr ⟨rfl, .ret, hIx _ _ _ _ _ _ hi3 (Turns.putObj W3 (.inr (.inl rfl)) _) (fun k h => .inl h), hl4, hd4, hxl, hxd⟩⟩
      | exit id =>
        obtain ⟨hk3, hi3⟩ := hp
        obtain ⟨hr, hl4, hd4, hk4⟩ := fin (some (.exit id)) W3 hk3
        exact ⟨_, _, hr, hk4, .inr ⟨rfl, .exit id, hIx _ _ _ _ _ _ hi3 (Turns.putObj W3 (.inr (.inl rfl)) _) (fun k h => .inl h), hl4, hd4, hxl, hxd⟩⟩
      | goto t =>
        obtain ⟨hk3, hi3⟩ := hp
        obtain ⟨hr, hl4, hd4, hk4⟩ := fin (some (.goto t)) W3 hk3
        exact ⟨_, _, hr, hk4, .inr ⟨rfl, .goto t, hIx _ _ _ _ _ _ hi3 (Turns.putObj W3 (.inr (.inl rfl)) _) (fun k h => .inl h), hl4, hd4, hxl, hxd⟩⟩
      | panic ch => exact hp.elim
      | outgrown => exact hp.elim
    · have s1 := (Array.getElem?_eq_some_iff.1 hL1).1
      exact hI 0 Noth _ w W1 h0 hT1 (fun k h => by rcases h with h | h | h; exact h.elim; exact .inr (by omega); exact .inr (by omega))
    · -- behind the iterator
      rintro e W2 ⟨⟨v, rfl⟩, (⟨hi, hl2, hd2, _, _⟩ | ⟨i, hiN, c, hi, hl2, hd2, _, _⟩)⟩
      · refine ⟨none, _, by have := run_endLoop (P := P) hl2 (by rw [hrec]; simp); rw [hrec] at this; exact this, ?_⟩
        exact hdone D _ (by omega) (hI N _ _ W2 _ hi (Turns.putObj W2 (.inr (.inl rfl)) _) (fun k h => .inl (.inr (.inr h)))) ((World.putObj_heap_other hDl).trans hd2)
      · refine ⟨some c, _, by have := run_endLoop (P := P) hl2 (by rw [hrec]; simp); rw [hrec] at this; exact this, ?_⟩
        exact hstop D c i _ (by omega) hiN (hIx c i _ _ W2 _ hi (Turns.putObj W2 (.inr (.inl rfl)) _) (fun k h => .inl (.inr (.inr h)))) ((World.putObj_heap_other hDl).trans hd2)

/-- The world behind 'own' is as it was when the loop began; what is private is younger than that. -/
structure Base (w₁ : World) (own X : Nat → Prop) (W : World) : Prop where
  turns : Turns own w₁ W
  young : ∀ k, X k → w₁.heap.size ≤ k ∧ k < W.heap.size

theorem Base.step {w₁ W W' : World} {own X X' : Nat → Prop} (h : Base w₁ own X W) (ht : Turns X W W') (hx : ∀ k, X' k → X k ∨ (W.heap.size ≤ k ∧ k < W'.heap.size)) : Base w₁ own X' W' :=
  ⟨h.turns.trans' ht (fun k hk => .inr (h.young k hk).1), fun k hk => by
    have s1 := h.turns.size
    have s2 := ht.size
    rcases hx k hk with h' | h'
    · have := h.young k h'; omega
    · omega⟩
theorem Base.keep {w₁ W W' : World} {own X : Nat → Prop} (h : Base w₁ own X W) (ht : Turns X W W') {k : Nat} (hk : k < w₁.heap.size) : W'.heap[k]? = W.heap[k]? :=
  ht.block k (Nat.lt_of_lt_of_le hk h.turns.size) (fun hx => by have := h.young k hx; omega)
theorem Base.start (w₁ : World) (own : Nat → Prop) : Base w₁ own Noth w₁ := ⟨Turns.refl _ _, fun _ h => h.elim⟩
theorem Base.fresh {w₁ W : World} {own X : Nat → Prop} (h : Base w₁ own X W) : ¬ X W.heap.size := fun hx => by have := h.young _ hx; omega
theorem Base.alloc {w₁ W : World} {own X : Nat → Prop} (h : Base w₁ own X W) (o : Obj) : Base w₁ own X (W.alloc o) :=
  h.step (Turns.alloc _ _ _) (fun _ h => .inl h)
theorem Keeps.alloc (X : Nat → Prop) (W : World) (o : Obj) : Keeps X W (W.alloc o) := Keeps.of_turns (Turns.alloc Noth W o) (fun _ _ h => h)
theorem Steady.and {I J : Nat → (Nat → Prop) → World → Prop} (h : Steady I) (k : Steady J) : Steady (fun i X W => I i X W ∧ J i X W) :=
  fun i X X' W W' hs ht hx => ⟨h i X X' W W' hs.1 ht hx, k i X X' W W' hs.2 ht hx⟩
/-- The box of a round's own variable. -/
theorem steady_round (a' : Act) (o : Nat → Obj) (mk : Nat → Nat → Act) : Steady (fun i X W => ∃ B, ¬ X B ∧ W.heap[B]? = some (o i) ∧ a' = mk i B) :=
  fun _ _ _ _ _ hs ht hx => by
    obtain ⟨B, hB, ho, hp⟩ := hs
    have hlt := (Array.getElem?_eq_some_iff.1 ho).1
    exact ⟨B, fun h => (hx B h).elim hB (fun h => by omega), (ht.block B hlt hB).trans ho, hp⟩
theorem steady_never : Steady (fun _ _ _ => False) := fun _ _ _ _ _ hs _ _ => hs

/-- At the end of a function whose loop has run: nothing that lay has turned. -/
theorem below_end {w w₁ W : World} {own : Nat → Prop} {D : Nat} (h1 : Turns Noth w w₁) (hb : Base w₁ own (fun k => k = D) W) (ho : ∀ k, own k → w.heap.size ≤ k) (o : Obj) : Below w.heap.size w (W.putObj D o) := by
  have hD := (hb.young D rfl).1
  have s1 := h1.size
  refine Turns.below (X := fun k => w.heap.size ≤ k) ?_ (Nat.le_refl _) (fun _ h => h)
  exact ((h1.mono (fun _ h => h.elim)).trans (hb.turns.mono ho)).trans (Turns.putObj W (by omega) o)

end Go.Proofs.Ytkhnfmdhdfpdhaa
