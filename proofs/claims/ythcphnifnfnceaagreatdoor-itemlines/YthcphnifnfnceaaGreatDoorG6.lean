/-
  What is proved here: clusters of a text: where they begin, how many there are (no program is named).
  What is proved here: what Em of metric answers of any byte, and the document's Em.
  What is proved here: whether a byte is in a text; the document's Em.
  What is proved here: the document's Em of any byte.
  What is proved here: how wide bytes are, as Width of metric and the document's Width tell it.
  What is proved here: Width of metric, the document's ByteWidth, TextWidth, Width.
  What is proved here: whether all numbers keep their bounds; the bounds of a paragraph's properties.
-/
import Derived.Test.YthcphnifnfnceaaGreatDoorRows
import Derived.Shelf.Abstract
import Derived.WalkKit
import Derived.WalkSpells
import Derived.LoopN
import Derived.Test.YthcphnifnfnceaaGreatDoorG2
namespace Go.Proofs.YthcphnifnfnceaaGreatDoor
open Go.Shelf

/-- What a byte begins; 0: it may not be. -/
def kindI (x : Int) : Int :=
  if (97 ≤ x ∧ x ≤ 122) ∨ (65 ≤ x ∧ x ≤ 90) then 1 else if x = 32 then 3 else if 32 < x ∧ x ≤ 126 then 2 else if x = 9 then 4 else if x = 31 then 5
  else if x = 1 then 6 else if x = 2 then 7 else if x = 3 then 8 else 0
def letB (x : Int) : Bool := decide ((97 ≤ x ∧ x ≤ 122) ∨ (65 ≤ x ∧ x ≤ 90))
def accB (x : Int) : Bool := decide (x = 94 ∨ x = 96 ∨ x = 126)
/-- A byte of a text. -/
def bt (t : ByteArray) (k : Nat) : Int := if h : k < t.size then ((t[k]'h).toNat : Int) else 0
theorem bt_eq {t : ByteArray} {k : Nat} (h : k < t.size) : bt t k = ((t[k]'h).toNat : Int) := dif_pos h
theorem bt_no {t : ByteArray} {k : Nat} (h : ¬ k < t.size) : bt t k = 0 := dif_neg h
theorem bt_rng (t : ByteArray) (k : Nat) : 0 ≤ bt t k ∧ bt t k < 256 := by
  unfold bt
  split
  · rename_i h; have := (t[k]'h).toNat_lt; omega
  · omega
theorem acc_lt {t : ByteArray} {k : Nat} (h : accB (bt t k) = true) : k < t.size := by
  by_cases hk : k < t.size
  · exact hk
  · rw [bt_no hk] at h; exact absurd h (by decide)
theorem kindI_one {x : Int} : kindI x = 1 ↔ letB x = true := by
  unfold kindI letB
  rw [decide_eq_true_iff]
  constructor
  · intro h
    split at h
    · assumption
    · exfalso
      repeat (split at h <;> try omega)
  · intro h; rw [if_pos h]

/-- Where the cluster ends that begins at k. -/
def endN (t : ByteArray) (k : Nat) : Nat :=
  if kindI (bt t k) = 1 then (if accB (bt t (k + 1)) = true then (if accB (bt t (k + 2)) = true then k + 3 else k + 2) else k + 1) else k + 1
theorem endN_gt (t : ByteArray) (k : Nat) : k < endN t k ∧ endN t k ≤ k + 3 := by
  unfold endN
  repeat' split
  all_goals omega
theorem endN_le {t : ByteArray} {k : Nat} (h : k < t.size) : endN t k ≤ t.size := by
  unfold endN
  split
  · split
    · rename_i h1; have := acc_lt h1
      split
      · rename_i h2; have := acc_lt h2; omega
      · omega
    · omega
  · omega

/-- Where cluster i begins. -/
def st (t : ByteArray) : Nat → Nat
  | 0 => 0
  | i + 1 => if st t i < t.size then endN t (st t i) else st t i
theorem st_zero (t : ByteArray) : st t 0 = 0 := rfl
theorem st_succ {t : ByteArray} {i : Nat} (h : st t i < t.size) : st t (i + 1) = endN t (st t i) := if_pos h
theorem st_le (t : ByteArray) : ∀ i, st t i ≤ t.size
  | 0 => Nat.zero_le _
  | i + 1 => by
    by_cases h : st t i < t.size
    · rw [st_succ h]; exact endN_le h
    · show (if st t i < t.size then endN t (st t i) else st t i) ≤ _
      rw [if_neg h]; exact st_le t i
theorem st_step (t : ByteArray) (i : Nat) : st t i ≤ st t (i + 1) := by
  by_cases h : st t i < t.size
  · rw [st_succ h]; have := (endN_gt t (st t i)).1; omega
  · show _ ≤ (if st t i < t.size then endN t (st t i) else st t i)
    rw [if_neg h]; exact Nat.le_refl _
theorem st_lt {t : ByteArray} {i : Nat} (h : st t i < t.size) : st t i < st t (i + 1) := by rw [st_succ h]; exact (endN_gt t _).1
theorem st_mono (t : ByteArray) {i j : Nat} (h : i ≤ j) : st t i ≤ st t j := by
  induction j with
  | zero => obtain rfl : i = 0 := by omega
            exact Nat.le_refl _
  | succ j ih =>
    by_cases e : i = j + 1
    · rw [e]; exact Nat.le_refl _
    · exact Nat.le_trans (ih (by omega)) (st_step t j)

/-- The first place in the list of beginnings that is the text's end. -/
def fst (t : ByteArray) : Nat → Nat → Nat
  | 0, i => i
  | n + 1, i => if st t i < t.size then fst t n (i + 1) else i
theorem fst_spec (t : ByteArray) : ∀ n i, t.size ≤ st t i + n → (∀ j, j < i → st t j < t.size) → st t (fst t n i) = t.size ∧ (∀ j, j < fst t n i → st t j < t.size) ∧ i ≤ fst t n i ∧ fst t n i ≤ i + n
  | 0, i, h, hj => ⟨by have := st_le t i; show st t i = _; omega, hj, Nat.le_refl _, Nat.le_refl _⟩
  | n + 1, i, h, hj => by
    show st t (if st t i < t.size then fst t n (i + 1) else i) = t.size ∧ _
    by_cases hi : st t i < t.size
    · obtain ⟨h1, h2, h3, h4⟩ := fst_spec t n (i + 1) (by have := st_lt hi; omega) (fun j hj' => by by_cases e : j = i; exact e ▸ hi; exact hj j (by omega))
      have e : fst t (n + 1) i = fst t n (i + 1) := if_pos hi
      rw [e, if_pos hi]
      exact ⟨h1, h2, by omega, by omega⟩
    · have e : fst t (n + 1) i = i := if_neg hi
      rw [e, if_neg hi]
      exact ⟨by have := st_le t i; omega, hj, Nat.le_refl _, by omega⟩
/-- How many clusters there are. -/
def num (t : ByteArray) : Nat := fst t t.size 0
theorem num_end (t : ByteArray) : st t (num t) = t.size := (fst_spec t t.size 0 (by omega) (fun _ h => by omega)).1
theorem num_lt {t : ByteArray} {j : Nat} (h : j < num t) : st t j < t.size := (fst_spec t t.size 0 (by omega) (fun _ h => by omega)).2.1 j h
theorem num_le (t : ByteArray) : num t ≤ t.size := by have := (fst_spec t t.size 0 (by omega) (fun _ h => by omega)).2.2.2; unfold num; omega
theorem lt_num {t : ByteArray} {j : Nat} (h : st t j < t.size) : j < num t := by
  by_cases hj : j < num t
  · exact hj
  · have := st_mono t (by omega : num t ≤ j); rw [num_end] at this; omega
theorem st_inj {t : ByteArray} {i j : Nat} (hi : i ≤ num t) (hj : j ≤ num t) (h : st t i = st t j) : i = j := by
  rcases Nat.lt_trichotomy i j with h' | h' | h'
  · have := st_lt (num_lt (show i < num t by omega)); have := st_mono t (show i + 1 ≤ j from h'); omega
  · exact h'
  · have := st_lt (num_lt (show j < num t by omega)); have := st_mono t (show j + 1 ≤ i from h'); omega
/-- The cluster that has a byte. -/
theorem has_cluster (t : ByteArray) {k : Nat} (h : k < t.size) : ∃ i, i < num t ∧ st t i ≤ k ∧ k < st t (i + 1) := by
  have : ∀ n, (st t n ≤ k → ∃ i, n ≤ i ∧ i < num t ∧ st t i ≤ k ∧ k < st t (i + 1)) ∨ num t < n := fun n => by
    by_cases hn : num t < n
    · exact .inr hn
    · refine .inl ?_
      generalize hm : num t - n = m
      induction m generalizing n with
      | zero => intro h'; obtain rfl : n = num t := by omega
                rw [num_end] at h'; omega
      | succ m ih =>
        intro h'
        by_cases hk : k < st t (n + 1)
        · exact ⟨n, Nat.le_refl _, by omega, h', hk⟩
        · obtain ⟨i, h1, h2⟩ := ih (n + 1) (by omega) (by omega) (by omega)
          exact ⟨i, by omega, h2⟩
  rcases this 0 with h' | h'
  · obtain ⟨i, _, h1⟩ := h' (Nat.zero_le _); exact ⟨i, h1⟩
  · omega

/-- What is wrong with a text. -/
def wrongI (t : ByteArray) : Int := if 4096 < t.size then 3 else if ∃ k, k < t.size ∧ kindI (bt t k) = 0 then 4 else 0
theorem wrong_long {t : ByteArray} (h : 4096 < t.size) : wrongI t = 3 := if_pos h
theorem wrong_byte {t : ByteArray} (h : ¬ 4096 < t.size) {k : Nat} (hk : k < t.size) (h0 : kindI (bt t k) = 0) : wrongI t = 4 := by unfold wrongI; rw [if_neg h, if_pos ⟨k, hk, h0⟩]
theorem wrong_ok {t : ByteArray} (h : ¬ 4096 < t.size) (h0 : ∀ k, k < t.size → kindI (bt t k) ≠ 0) : wrongI t = 0 := by
  unfold wrongI; rw [if_neg h, if_neg (fun ⟨k, hk, e⟩ => h0 k hk e)]
theorem ok_size {t : ByteArray} (h : wrongI t = 0) : t.size ≤ 4096 := by
  unfold wrongI at h
  split at h
  · cases h
  · omega
theorem ok_kind {t : ByteArray} (h : wrongI t = 0) {k : Nat} (hk : k < t.size) : kindI (bt t k) ≠ 0 := by
  intro h0
  rw [wrong_byte (by have := ok_size h; omega) hk h0] at h
  cases h
theorem wrong_rng (t : ByteArray) : wrongI t = 0 ∨ wrongI t = 3 ∨ wrongI t = 4 := by
  unfold wrongI
  repeat' split
  all_goals simp
/-- Cluster i, as cells. -/
def clC (t : ByteArray) (i : Nat) : List Value := [.int .i64 (st t i : Nat), .int .i64 (st t (i + 1) : Nat), .int .i64 (kindI (bt t (st t i)))]
def rowC (t : ByteArray) : Nat → List Value
  | 0 => []
  | i + 1 => rowC t i ++ clC t i
theorem rowC_len (t : ByteArray) : ∀ i, (rowC t i).length = i * 3
  | 0 => rfl
  | i + 1 => by show (rowC t i ++ clC t i).length = _; rw [List.length_append, rowC_len t i]; simp [clC]; omega
theorem kindI_rng (x : Int) : 0 ≤ kindI x ∧ kindI x ≤ 8 := by
  unfold kindI
  repeat' split
  all_goals omega
end Go.Proofs.YthcphnifnfnceaaGreatDoor

namespace Go.Proofs.YthcphnifnfnceaaGreatDoor
open Go.RowKit Go.Shelf

/-- The em of a byte, in eighths. -/
def emI (x : Int) : Int :=
  if x = 105 ∨ x = 106 ∨ x = 108 ∨ x = 39 ∨ x = 46 ∨ x = 44 ∨ x = 58 ∨ x = 59 ∨ x = 33 ∨ x = 124 then 2
  else if x = 102 ∨ x = 116 ∨ x = 114 ∨ x = 40 ∨ x = 41 ∨ x = 91 ∨ x = 93 ∨ x = 123 ∨ x = 125 ∨ x = 45 ∨ x = 34 ∨ x = 94 ∨ x = 95 ∨ x = 126 ∨ x = 96 ∨ x = 32 ∨ x = 73 then 3
  else if x = 109 ∨ x = 119 then 7 else if x = 77 ∨ x = 87 then 8 else if (97 ≤ x ∧ x ≤ 122) ∨ (48 ≤ x ∧ x ≤ 57) then 5 else if 32 < x ∧ x ≤ 126 then 6 else 0
theorem emI_rng (x : Int) : 0 ≤ emI x ∧ emI x ≤ 8 := by
  unfold emI
  repeat' split
  all_goals omega
theorem em_2 {x : Int} (h : x = 105 ∨ x = 106 ∨ x = 108 ∨ x = 39 ∨ x = 46 ∨ x = 44 ∨ x = 58 ∨ x = 59 ∨ x = 33 ∨ x = 124) : emI x = 2 := if_pos h

set_option maxRecDepth 100000 in
set_option maxHeartbeats 4000000 in
theorem em_any (x : Int) (w : World) : Calls Tryz.prog 96 #[.int .u8 x] w fun e w' => e = .returned (.int .i64 (emI x)) ∧ w' = w := by
  go_enter Tryz.func96, Tryz.ntmps96
  go_wp2
  all_goals go_ret
  all_goals refine ⟨?_, rfl⟩
  all_goals congr 2
  all_goals try simp only [beq_iff_eq, beq_eq_false_iff_ne, ne_eq] at *
  all_goals first | (subst_vars; rfl) | (unfold emI; repeat (first | rw [if_neg (by omega)] | rw [if_pos (by omega)]))
  all_goals first | rfl | (exfalso; omega)
end Go.Proofs.YthcphnifnfnceaaGreatDoor

namespace Go.Proofs.YthcphnifnfnceaaGreatDoor
open Go.RowKit Go.Shelf

/-- Is a byte in a text? -/
def inB (x : Int) (t : ByteArray) : Bool := t.data.toList.any (fun b => decide ((b.toNat : Int) = x))
theorem in_yes {x : Int} {t : ByteArray} {k : Nat} (h : k < t.size) (e : bt t k = x) : inB x t = true := by
  rw [bt_eq h] at e
  exact List.any_eq_true.2 ⟨t[k], by simp [ByteArray.getElem_eq_getElem_data], by simpa using e⟩
theorem in_no {x : Int} {t : ByteArray} (h : ∀ k, k < t.size → bt t k ≠ x) : inB x t = false := by
  refine List.any_eq_false.2 fun b hb => ?_
  obtain ⟨k, hk, rfl⟩ := List.getElem_of_mem hb
  have hk' : k < t.size := by simpa using hk
  have := h k hk'
  rw [bt_eq hk'] at this
  simpa [ByteArray.getElem_eq_getElem_data] using this

set_option maxRecDepth 100000 in
set_option maxHeartbeats 1000000 in
theorem in_any (x : Int) (t : ByteArray) (w : World) (ht : t.size ≤ 4096) : Calls Tryz.prog 122 #[.int .u8 x, .string t] w fun e w' => e = .returned (.bool (inB x t)) ∧ w' = w := by
  have hY : Hid (∀ k, k < t.size → bt t k = x → inB x t = true) := fun k hk e => in_yes hk e
  have hN : Hid ((∀ k, k < t.size → bt t k ≠ x) → inB x t = false) := in_no
  generalize inB x t = n at hY hN ⊢
  go_enter Tryz.func122, Tryz.ntmps122
  go_wp2
  go_loopw [5] (fun i wr => ∃ k : Nat, k ≤ t.size ∧ i = .int .i64 k ∧ wr = w ∧ Hid (∀ j, j < k → bt t j ≠ x)) (fun i _ => t.size - (intOf i).toNat)
  case atStart => exact ⟨0, by omega, rfl, rfl, fun j hj => by omega⟩
  case round =>
    obtain ⟨k, hk, rfl, rfl, hall⟩ := hrel
    by_cases hlt : k < t.size
    · have hb : Hid (bt t k = ((t[k]'hlt).toNat : Int)) := bt_eq hlt
      go_wp2_with fail
      · rename_i hv
        have hn := hY.out k hlt (hb.out.trans (by simpa using hv))
        subst hn
        go_ret
        exact ⟨rfl, rfl⟩
      · rename_i hv
        have hyes : Hid (∀ j, j < k + 1 → bt t j ≠ x) := fun j hj => by
          by_cases h : j < k
          · exact hall.out j h
          · obtain rfl : j = k := by omega
            rw [hb.out]
            simpa using hv
        clear hY hN hall hb hv
        go_roundw
        case rel => exact ⟨k + 1, by omega, by simp, by first | rfl | trivial, hyes⟩
        case measure => simp [intOf]; omega
    · have hn := hN.out (fun j hj => hall.out j (by omega))
      clear hY hN hall
      subst hn
      go_wp2_with fail
      go_ret
      exact ⟨rfl, rfl⟩

end Go.Proofs.YthcphnifnfnceaaGreatDoor

namespace Go.Proofs.YthcphnifnfnceaaGreatDoor
open Go.RowKit Go.Shelf

theorem in_a_fin : ∀ n : Fin 256, inB ((n : Nat) : Int) { data := #[105, 106, 108, 39, 46, 44, 58, 59, 33, 124] } = decide (((n : Nat) : Int) = 105 ∨ ((n : Nat) : Int) = 106 ∨ ((n : Nat) : Int) = 108 ∨ ((n : Nat) : Int) = 39 ∨ ((n : Nat) : Int) = 46 ∨ ((n : Nat) : Int) = 44 ∨ ((n : Nat) : Int) = 58 ∨ ((n : Nat) : Int) = 59 ∨ ((n : Nat) : Int) = 33 ∨ ((n : Nat) : Int) = 124) := by decide +kernel
theorem in_a (x : Int) (h : 0 ≤ x ∧ x < 256) : inB x { data := #[105, 106, 108, 39, 46, 44, 58, 59, 33, 124] } = decide (x = 105 ∨ x = 106 ∨ x = 108 ∨ x = 39 ∨ x = 46 ∨ x = 44 ∨ x = 58 ∨ x = 59 ∨ x = 33 ∨ x = 124) := by
  have := in_a_fin ⟨x.toNat, by omega⟩
  have e : ((x.toNat : Nat) : Int) = x := by omega
  simp only [e] at this
  exact this
theorem in_b_fin : ∀ n : Fin 256, inB ((n : Nat) : Int) { data := #[102, 116, 114, 40, 41, 91, 93, 123, 125, 45, 34, 94, 95, 126, 32, 73] } = decide (((n : Nat) : Int) = 102 ∨ ((n : Nat) : Int) = 116 ∨ ((n : Nat) : Int) = 114 ∨ ((n : Nat) : Int) = 40 ∨ ((n : Nat) : Int) = 41 ∨ ((n : Nat) : Int) = 91 ∨ ((n : Nat) : Int) = 93 ∨ ((n : Nat) : Int) = 123 ∨ ((n : Nat) : Int) = 125 ∨ ((n : Nat) : Int) = 45 ∨ ((n : Nat) : Int) = 34 ∨ ((n : Nat) : Int) = 94 ∨ ((n : Nat) : Int) = 95 ∨ ((n : Nat) : Int) = 126 ∨ ((n : Nat) : Int) = 32 ∨ ((n : Nat) : Int) = 73) := by decide +kernel
theorem in_b (x : Int) (h : 0 ≤ x ∧ x < 256) : inB x { data := #[102, 116, 114, 40, 41, 91, 93, 123, 125, 45, 34, 94, 95, 126, 32, 73] } = decide (x = 102 ∨ x = 116 ∨ x = 114 ∨ x = 40 ∨ x = 41 ∨ x = 91 ∨ x = 93 ∨ x = 123 ∨ x = 125 ∨ x = 45 ∨ x = 34 ∨ x = 94 ∨ x = 95 ∨ x = 126 ∨ x = 32 ∨ x = 73) := by
  have := in_b_fin ⟨x.toNat, by omega⟩
  have e : ((x.toNat : Nat) : Int) = x := by omega
  simp only [e] at this
  exact this

set_option maxRecDepth 100000 in
set_option maxHeartbeats 1000000 in
theorem rem_any (x : Int) (h : 0 ≤ x ∧ x < 256) (w : World) : Calls Tryz.prog 84 #[.int .u8 x] w fun e w' => e = .returned (.int .i64 (emI x)) ∧ w' = w := by
  have q1 := in_a x h
  have q2 := in_b x h
  by_cases b1 : x = 105 ∨ x = 106 ∨ x = 108 ∨ x = 39 ∨ x = 46 ∨ x = 44 ∨ x = 58 ∨ x = 59 ∨ x = 33 ∨ x = 124
  · rw [decide_eq_true b1] at q1
    rw [em_2 b1]
    clear b1 q2 h
    go_enter Tryz.func84, Tryz.ntmps84
    go_wp2_with (go_at_call 122; refine (in_any _ _ _ (by decide)).mono ?_; rw [q1]; rintro e w' ⟨rfl, hww⟩; subst w')
    go_ret
    exact ⟨rfl, rfl⟩
  · rw [decide_eq_false b1] at q1
    by_cases b2 : x = 102 ∨ x = 116 ∨ x = 114 ∨ x = 40 ∨ x = 41 ∨ x = 91 ∨ x = 93 ∨ x = 123 ∨ x = 125 ∨ x = 45 ∨ x = 34 ∨ x = 94 ∨ x = 95 ∨ x = 126 ∨ x = 32 ∨ x = 73
    · rw [decide_eq_true b2] at q2
      have e1 : emI x = 3 := by unfold emI; rw [if_neg b1, if_pos (by omega)]
      rw [e1]
      clear b1 b2 e1 h
      go_enter Tryz.func84, Tryz.ntmps84
      go_wp2_with (go_at_call 122; refine (in_any _ _ _ (by decide)).mono ?_; (first | rw [q1] | rw [q2]); rintro e w' ⟨rfl, hww⟩; subst w')
      go_ret
      exact ⟨rfl, rfl⟩
    · rw [decide_eq_false b2] at q2
      have c1 : Hid (¬ (x = 105 ∨ x = 106 ∨ x = 108 ∨ x = 39 ∨ x = 46 ∨ x = 44 ∨ x = 58 ∨ x = 59 ∨ x = 33 ∨ x = 124)) := b1
      have c2 : Hid (¬ (x = 102 ∨ x = 116 ∨ x = 114 ∨ x = 40 ∨ x = 41 ∨ x = 91 ∨ x = 93 ∨ x = 123 ∨ x = 125 ∨ x = 45 ∨ x = 34 ∨ x = 94 ∨ x = 95 ∨ x = 126 ∨ x = 32 ∨ x = 73)) := b2
      clear b1 b2
      go_enter Tryz.func84, Tryz.ntmps84
      go_wp2_with (go_at_call 122; refine (in_any _ _ _ (by decide)).mono ?_; (first | rw [q1] | rw [q2]); rintro e w' ⟨rfl, hww⟩; subst w')
      all_goals go_ret
      all_goals refine ⟨?_, rfl⟩
      all_goals have d1 := c1.out
      all_goals have d2 := c2.out
      all_goals clear c1 c2 q1 q2
      all_goals congr 2
      all_goals try simp only [beq_iff_eq, beq_eq_false_iff_ne, ne_eq] at *
      all_goals first | (subst_vars; rfl) | (unfold emI; repeat (first | rw [if_neg (by omega)] | rw [if_pos (by omega)]))
      all_goals first | rfl | (exfalso; omega)

end Go.Proofs.YthcphnifnfnceaaGreatDoor

namespace Go.Proofs.YthcphnifnfnceaaGreatDoor
open Go.RowKit Go.Shelf

/-- The width of a byte of a size. -/
def bw (x s : Int) : Int := (emI x * s) / 8
theorem bw_rng (x : Int) {s : Int} (h0 : 0 ≤ s) (h1 : s ≤ 64) : 0 ≤ bw x s ∧ bw x s ≤ 64 := by
  have he := emI_rng x
  unfold bw
  have a : 0 ≤ emI x * s := Int.mul_nonneg he.1 h0
  have b : emI x * s ≤ 8 * 64 := Int.mul_le_mul he.2 h1 h0 (by omega)
  omega
theorem bw_mul (x : Int) {s : Int} (h0 : 0 ≤ s) (h1 : s ≤ 64) : 0 ≤ emI x * s ∧ emI x * s ≤ 512 := by
  have he := emI_rng x
  have a : 0 ≤ emI x * s := Int.mul_nonneg he.1 h0
  have b : emI x * s ≤ 8 * 64 := Int.mul_le_mul he.2 h1 h0 (by omega)
  omega
/-- The widths of the first bytes of a text. -/
def tw (t : ByteArray) (s : Int) : Nat → Int
  | 0 => 0
  | k + 1 => tw t s k + bw (bt t k) s
theorem tw_rng (t : ByteArray) {s : Int} (h0 : 0 ≤ s) (h1 : s ≤ 64) : ∀ k, 0 ≤ tw t s k ∧ tw t s k ≤ 64 * (k : Int)
  | 0 => by simp [tw]
  | k + 1 => by
    have := tw_rng t h0 h1 k
    have := bw_rng (bt t k) h0 h1
    show 0 ≤ tw t s k + bw (bt t k) s ∧ tw t s k + bw (bt t k) s ≤ _
    omega
def widthI (t : ByteArray) (s : Int) : Int := tw t s t.size

set_option maxRecDepth 100000 in
set_option maxHeartbeats 1000000 in
theorem width_any (t : ByteArray) (s : Int) (h0 : 0 ≤ s) (h1 : s ≤ 64) (ht : t.size ≤ 4096) (w : World) : Calls Tryz.prog 97 #[.string t, .int .i64 s] w fun e w' => e = .returned (.int .i64 (widthI t s)) ∧ w' = w := by
  have hW : Hid (tw t s t.size = widthI t s) := rfl
  go_enter Tryz.func97, Tryz.ntmps97
  go_wp2
  go_loopw [5, 9] (fun n i wr => ∃ k : Nat, k ≤ t.size ∧ i = .int .i64 k ∧ n = .int .i64 (tw t s k) ∧ wr = w) (fun _ i _ => t.size - (intOf i).toNat)
  case atStart => exact ⟨0, by omega, rfl, rfl, rfl⟩
  case round =>
    obtain ⟨k, hk, rfl, rfl, rfl⟩ := hrel
    by_cases hlt : k < t.size
    · have hb := bt_eq hlt
      have hm := bw_mul (bt t k) h0 h1
      have hq : Hid (tw t s (k + 1) = tw t s k + emI (bt t k) * s / 8) := rfl
      have hr := tw_rng t h0 h1 k
      have hE := em_any (bt t k) wr
      rw [hb] at hm hq hE
      generalize emI ((t[k]'hlt).toNat : Int) = e at hm hq hE
      generalize hx : tw t s k = x at hr hq
      clear hx hb
      obtain ⟨hm0, hm1⟩ := hm
      obtain ⟨hr0, hr1⟩ := hr
      have hd : (e * s).tdiv 8 = e * s / 8 := Int.tdiv_eq_ediv_of_nonneg hm0
      go_wp2_with (go_at_call 96; refine hE.mono ?_; rintro e w' ⟨rfl, hww⟩; subst w')
      go_roundw
      case rel => exact ⟨k + 1, by omega, by simp, by rw [hq.out], by first | rfl | trivial⟩
      case measure => simp [intOf]; omega
    · obtain rfl : k = t.size := by omega
      rw [hW.out]
      clear hW
      go_wp2_with fail
      go_ret
      exact ⟨rfl, rfl⟩

end Go.Proofs.YthcphnifnfnceaaGreatDoor

namespace Go.Proofs.YthcphnifnfnceaaGreatDoor
open Go.RowKit Go.Shelf

set_option maxRecDepth 100000 in
set_option maxHeartbeats 1000000 in
theorem rbyteWidth_any (x s : Int) (hx : 0 ≤ x ∧ x < 256) (h0 : 0 ≤ s) (h1 : s ≤ 64) (w : World) : Calls Tryz.prog 44 #[.int .u8 x, .int .i64 s] w fun e w' => e = .returned (.int .i64 (bw x s)) ∧ w' = w := by
  have hE := rem_any x hx w
  obtain ⟨hm0, hm1⟩ := bw_mul x h0 h1
  have hq : bw x s = emI x * s / 8 := rfl
  rw [hq]
  clear hq
  generalize emI x = e at *
  have hd : (e * s).tdiv 8 = e * s / 8 := Int.tdiv_eq_ediv_of_nonneg hm0
  go_enter Tryz.func44, Tryz.ntmps44
  go_wp2_with (go_at_call 84; refine hE.mono ?_; rintro e w' ⟨rfl, hww⟩; subst w')
  go_ret
  exact ⟨rfl, rfl⟩

set_option maxRecDepth 100000 in
set_option maxHeartbeats 1000000 in
theorem rtextWidth_any (t : ByteArray) (s : Int) (h0 : 0 ≤ s) (h1 : s ≤ 64) (ht : t.size ≤ 4096) (w : World) : Calls Tryz.prog 116 #[.string t, .int .i64 s] w fun e w' => e = .returned (.int .i64 (widthI t s)) ∧ w' = w := by
  have hW : Hid (tw t s t.size = widthI t s) := rfl
  go_enter Tryz.func116, Tryz.ntmps116
  go_wp2
  go_loopw [5, 6] (fun n i wr => ∃ k : Nat, k ≤ t.size ∧ i = .int .i64 k ∧ n = .int .i64 (tw t s k) ∧ wr = w) (fun _ i _ => t.size - (intOf i).toNat)
  case atStart => exact ⟨0, by omega, rfl, rfl, rfl⟩
  case round =>
    obtain ⟨k, hk, rfl, rfl, rfl⟩ := hrel
    by_cases hlt : k < t.size
    · have hb := bt_eq hlt
      obtain ⟨hm0, hm1⟩ := bw_rng (bt t k) h0 h1
      have hq : Hid (tw t s (k + 1) = tw t s k + bw (bt t k) s) := rfl
      obtain ⟨hr0, hr1⟩ := tw_rng t h0 h1 k
      have hE := rbyteWidth_any (bt t k) s (bt_rng t k) h0 h1 wr
      generalize bw (bt t k) s = y at hm0 hm1 hq hE
      rw [hb] at hE
      generalize hx : tw t s k = x at hr0 hr1 hq
      clear hx hb
      go_wp2_with (go_at_call 44; refine hE.mono ?_; rintro e w' ⟨rfl, hww⟩; subst w')
      go_roundw
      case rel => exact ⟨k + 1, by omega, by simp, by rw [hq.out], by first | rfl | trivial⟩
      case measure => simp [intOf]; omega
    · obtain rfl : k = t.size := by omega
      rw [hW.out]
      clear hW
      go_wp2_with fail
      go_ret
      exact ⟨rfl, rfl⟩

/-- What Width answers. -/
def wErr (t : ByteArray) (s : Int) : Int := if 1 ≤ s ∧ s ≤ 64 then (if 4096 < t.size then 3 else 0) else 5
def wVal (t : ByteArray) (s : Int) : Int := if wErr t s = 0 then widthI t s else 0
theorem wErr_cases (t : ByteArray) (s : Int) : (wErr t s = 5 ∧ wVal t s = 0 ∧ (s < 1 ∨ 64 < s)) ∨ (wErr t s = 3 ∧ wVal t s = 0 ∧ 1 ≤ s ∧ s ≤ 64 ∧ 4096 < t.size) ∨ (wErr t s = 0 ∧ wVal t s = widthI t s ∧ 1 ≤ s ∧ s ≤ 64 ∧ t.size ≤ 4096) := by
  unfold wVal
  by_cases h : 1 ≤ s ∧ s ≤ 64
  · by_cases h2 : 4096 < t.size
    · have e : wErr t s = 3 := by unfold wErr; rw [if_pos h, if_pos h2]
      rw [e]; exact .inr (.inl ⟨rfl, rfl, h.1, h.2, h2⟩)
    · have e : wErr t s = 0 := by unfold wErr; rw [if_pos h, if_neg h2]
      rw [e]; exact .inr (.inr ⟨rfl, rfl, h.1, h.2, by omega⟩)
  · have e : wErr t s = 5 := by unfold wErr; rw [if_neg h]
    rw [e]; exact .inl ⟨rfl, rfl, by omega⟩

set_option maxRecDepth 100000 in
set_option maxHeartbeats 1000000 in
theorem Width_any (t : ByteArray) (s : Int) (w : World) : Calls Tryz.prog 146 #[.string t, .int .i64 s] w fun e w' => e = .returned (.tuple #[.int .i64 (wVal t s), .int .i64 (wErr t s)]) ∧ w' = w := by
  rcases wErr_cases t s with ⟨e1, e2, h⟩ | ⟨e1, e2, h1, h2, h3⟩ | ⟨e1, e2, h1, h2, h3⟩
  · rw [e1, e2]
    clear e1 e2
    rcases h with h | h
    all_goals
      go_enter Tryz.func146, Tryz.ntmps146
      go_wp2
      go_ret2
      exact ⟨rfl, rfl⟩
  · rw [e1, e2]
    clear e1 e2
    go_enter Tryz.func146, Tryz.ntmps146
    go_wp2
    go_ret2
    exact ⟨rfl, rfl⟩
  · rw [e1, e2]
    have hE := width_any t s (by omega) h2 h3 w
    clear e1 e2
    go_enter Tryz.func146, Tryz.ntmps146
    go_wp2_with (go_at_call 97; refine hE.mono ?_; rintro e w' ⟨rfl, hww⟩; subst w')
    go_ret2
    exact ⟨rfl, rfl⟩

end Go.Proofs.YthcphnifnfnceaaGreatDoor

namespace Go.Proofs.YthcphnifnfnceaaGreatDoor
open Go.RowKit Go.Shelf

/-- A number, and between which ones it must lie. -/
abbrev Bd := Int × Int × Int
def bdL (r : Bd) : List Value := [.int .i64 r.1, .int .i64 r.2.1, .int .i64 r.2.2]
theorem bdL_len (r : Bd) : (bdL r).length = 3 := rfl
def bdB (r : Bd) : Bool := decide (r.2.1 ≤ r.1 ∧ r.1 ≤ r.2.2)
def keepB (l : List Bd) : Bool := l.all bdB

set_option maxRecDepth 100000 in
set_option maxHeartbeats 1000000 in
theorem keep_any (v : Value) (l : List Bd) (hl : l.length ≤ 100) (w : World) (hS : RecAt 3 bdL w v l) :
    Calls Tryz.prog 64 #[v] w fun e w' => e = .returned (.bool (keepB l)) ∧ Below w.heap.size w w' := by
  obtain ⟨a, cap, rfl, h2⟩ := hS.ex
  clear hS
  have hY : Hid (∀ k (hk : k < l.length), bdB l[k] = false → keepB l = false) := fun k hk e => List.all_eq_false.2 ⟨l[k], List.getElem_mem hk, by simp [e]⟩
  have hN : Hid ((∀ k (hk : k < l.length), bdB l[k] = true) → keepB l = true) := fun h => List.all_eq_true.2 fun b hb => by
    obtain ⟨k, hk, rfl⟩ := List.getElem_of_mem hb
    exact h k hk
  generalize keepB l = r at hY hN ⊢
  go_enter Tryz.func64, Tryz.ntmps64
  go_wp2
  go_loopw [7] (fun i wr => ∃ k : Nat, k ≤ l.length ∧ i = .int .i64 k ∧ Below w.heap.size w wr ∧ Hid (∀ j (hj : j < l.length), j < k → bdB l[j] = true)) (fun i _ => l.length - (intOf i).toNat)
  case atStart => exact ⟨0, by omega, rfl, Below.refl _ _, fun j _ hj => by omega⟩
  case round =>
    obtain ⟨k, hk, rfl, hb, hall⟩ := hrel
    by_cases hlt : k < l.length
    · rcases h2 with h2 | ⟨b, o, rfl, hbl, hc⟩
      · rw [h2] at hlt; simp at hlt
      · have c0 : wr.cell? ⟨b, o + k * 3, none⟩ = some (.int .i64 l[k].1) := (hb.cell hbl).trans (hc k hlt 0 _ rfl)
        have c1 : wr.cell? ⟨b, o + k * 3 + 1, none⟩ = some (.int .i64 l[k].2.1) := (hb.cell hbl).trans (hc k hlt 1 _ rfl)
        have c2 : wr.cell? ⟨b, o + k * 3 + 2, none⟩ = some (.int .i64 l[k].2.2) := (hb.cell hbl).trans (hc k hlt 2 _ rfl)
        have hlt' : (k : Int) < l.length := by omega
        have hbb : Hid (bdB l[k] = decide (l[k].2.1 ≤ l[k].1 ∧ l[k].1 ≤ l[k].2.2)) := rfl
        have hyes : Hid (bdB l[k] = true → ∀ j (hj : j < l.length), j < k + 1 → bdB l[j] = true) := fun hv j hj hjk => by
            by_cases h : j < k
            · exact hall.out j hj h
            · obtain rfl : j = k := by omega
              exact hv
        have hno : Hid (bdB l[k] = false → r = false) := hY.out k hlt
        clear hY hN hall hc
        generalize l[k].1 = x0 at *
        generalize l[k].2.1 = x1 at *
        generalize l[k].2.2 = x2 at *
        by_cases d1 : x0 < x1
        · have hn := hno.out (hbb.out.trans (decide_eq_false (by omega)))
          subst hn
          clear hyes hno hbb
          go_wp2_with fail
          go_ret
          exact ⟨rfl, hb.alloc hb.size _⟩
        · by_cases d2 : x2 < x0
          · have hn := hno.out (hbb.out.trans (decide_eq_false (by omega)))
            subst hn
            clear hyes hno hbb
            go_wp2_with fail
            go_ret
            exact ⟨rfl, hb.alloc hb.size _⟩
          · have hy : Hid (∀ j (hj : j < l.length), j < k + 1 → bdB l[j] = true) := hyes.out (hbb.out.trans (decide_eq_true (by omega)))
            clear hyes hno hbb
            go_wp2_with fail
            go_roundw
            case rel => exact ⟨k + 1, by omega, by simp, hb.alloc hb.size _, hy⟩
            case measure => simp [intOf]; omega
    · have hn := hN.out (fun j hj => hall.out j hj (by omega))
      have hge : ¬ (k : Int) < l.length := by omega
      clear hY hN hall h2
      subst hn
      go_wp2_with fail
      go_ret
      exact ⟨rfl, hb⟩

/-- A paragraph's properties. -/
structure Pr where
  p0 : Int
  p1 : Int
  p2 : Int
  p3 : Int
  p4 : Int
  p5 : Int
  p6 : Int
  p7 : Int
  p8 : Int
  p9 : Int
  p10 : Int
  p11 : Int
  p12 : Int
  p13 : Int
  p14 : Int
  p15 : Int
  p16 : Int
def prL (p : Pr) : List Value := [.int .i64 p.p0, .int .i64 p.p1, .int .i64 p.p2, .int .i64 p.p3, .int .i64 p.p4, .int .i64 p.p5, .int .i64 p.p6, .int .i64 p.p7, .int .i64 p.p8, .int .i64 p.p9, .int .i64 p.p10, .int .i64 p.p11, .int .i64 p.p12, .int .i64 p.p13, .int .i64 p.p14, .int .i64 p.p15, .int .i64 p.p16]
def prB (p : Pr) : List Bd := [(p.p0, 1, 64), (p.p1, 1, 255), (p.p2, 0, 3), (p.p3, 0, 255), (p.p4, 0, 255), (p.p5, 0, 255), (p.p6, 0, 255), (p.p7, 0, 255), (p.p8, 0, 1), (p.p9, 0, 1), (p.p10, 1, 4), (p.p11, 1, 4), (p.p12, 0, 1), (p.p13, 0, 1), (p.p14, 0, 4), (p.p15, 0, 8), (p.p16, 0, 3)]

end Go.Proofs.YthcphnifnfnceaaGreatDoor
