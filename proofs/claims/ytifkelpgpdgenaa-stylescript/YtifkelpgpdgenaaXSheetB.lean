/-
  What is proved here: what inName, isName of style answer.
-/
import Derived.Test.YtifkelpgpdgenaaXSheetA
namespace Go.Proofs.Ytifkelpgpdgenaa
open Go.RowKit Go.Shelf

def inB (x : Int) : Bool := decide (97 ≤ x ∧ x ≤ 122) || (decide (48 ≤ x ∧ x ≤ 57) || decide (x = 45))
def e0 : Str := ⟨#[]⟩
def nameB (s : Str) : Bool := decide (0 < s.size) && decide (s.size ≤ 16) && s.data.toList.all (fun c => inB c.toNat)

set_option maxHeartbeats 1000000 in
theorem inName_any (x : Int) (w : World) : Calls Try.prog 57 #[.int .u8 x] w fun e w' => e = .returned (.bool (inB x)) ∧ w' = w := by
  have hc : x < 45 ∨ x = 45 ∨ (45 < x ∧ x < 48) ∨ (48 ≤ x ∧ x ≤ 57) ∨ (57 < x ∧ x < 97) ∨ (97 ≤ x ∧ x ≤ 122) ∨ 122 < x := by omega
  have hv : inB x = (decide (97 ≤ x ∧ x ≤ 122) || (decide (48 ≤ x ∧ x ≤ 57) || decide (x = 45))) := rfl
  rcases hc with h | h | h | h | h | h | h
  all_goals
    first
      | (have e1 : inB x = true := by rw [hv]; simp; omega
         rw [e1])
      | (have e1 : inB x = false := by rw [hv]; simp; omega
         rw [e1])
    clear hv
    have f1 : (x == 45) = decide (x = 45) := by by_cases h : x = 45 <;> simp [h]
    go_enter Try.func57, Try.ntmps57
    go_wp2
    all_goals (go_ret; first | exact ⟨rfl, rfl⟩ | (exfalso; omega) | (refine ⟨?_, rfl⟩; congr 2; simp <;> omega))

theorem size_zero {s : Str} (h : s.size = 0) : s = e0 := by
  obtain ⟨⟨l⟩⟩ := s
  have : l = [] := List.eq_nil_of_length_eq_zero h
  rw [this]; rfl
theorem toList_data (s : Str) : ByteArray.toList s = s.data.toList := ByteArray.toList_eq s
theorem isEmpty_no {s : Str} (h : 0 < s.size) : (ByteArray.toList s).isEmpty = false := by
  rw [toList_data]
  cases hl : s.data.toList with
  | nil =>
    have : s.size = 0 := by show s.data.size = 0; rw [← Array.length_toList, hl]; rfl
    omega
  | cons => rfl
theorem nameB_all {s : Str} (h1 : 0 < s.size) (h2 : s.size ≤ 16) (h : ∀ (k : Nat) (hk : k < s.size), inB ((s[k]'hk).toNat : Int) = true) : nameB s = true := by
  unfold nameB
  rw [decide_eq_true h1, decide_eq_true h2]
  refine List.all_eq_true.2 fun c hc => ?_
  obtain ⟨k, hk, rfl⟩ := List.getElem_of_mem hc
  exact h k (by simpa using hk)
theorem nameB_no {s : Str} {k : Nat} (hk : k < s.size) (h : inB ((s[k]'hk).toNat : Int) = false) : nameB s = false := by
  cases hn : nameB s with
  | false => rfl
  | true =>
    unfold nameB at hn
    simp only [Bool.and_eq_true] at hn
    have := List.all_eq_true.1 hn.2 (s.data.toList[k]'(by simpa using hk)) (List.getElem_mem _)
    rw [← this, ← h]; rfl

set_option maxRecDepth 100000 in
set_option maxHeartbeats 2000000 in
theorem isName_any (s : Str) (w : World) : Calls Try.prog 39 #[.string s] w fun e w' => e = .returned (.bool (nameB s)) ∧ w' = w := by
  have hin := inName_any
  by_cases h0 : s.size = 0
  · obtain rfl := size_zero h0
    have : nameB e0 = false := by decide
    rw [this]
    unfold e0
    go_enter Try.func39, Try.ntmps39
    go_wp2_with fail
    go_ret
    exact ⟨rfl, rfl⟩
  · have hpos : 0 < s.size := by omega
    have hE := isEmpty_no hpos
    by_cases h16 : 16 < s.size
    · have : nameB s = false := by unfold nameB; rw [decide_eq_false (by omega : ¬ s.size ≤ 16)]; simp
      rw [this]
      go_enter Try.func39, Try.ntmps39
      go_wp2_with fail
      go_ret
      exact ⟨rfl, rfl⟩
    · have h16' : s.size ≤ 16 := by omega
      go_enter Try.func39, Try.ntmps39
      go_wp2_with fail
      go_loopw [13] (fun i wr => ∃ k : Nat, k ≤ s.size ∧ i = .int .i64 k ∧ wr = w ∧ Hid (∀ (j : Nat) (hj : j < s.size), j < k → inB ((s[j]'hj).toNat : Int) = true)) (fun i _ => s.size - (intOf i).toNat)
      case atStart => exact ⟨0, by omega, rfl, rfl, fun j _ hj => by omega⟩
      case round =>
        obtain ⟨k, hk, rfl, rfl, hall⟩ := hrel
        by_cases hlt : k < s.size
        · have hno : Hid _ := nameB_no hlt
          cases hv : inB ((s[k]'hlt).toNat : Int)
          · have h5 := hno.out hv
            clear hno hall
            go_wp2_with (go_at_call 57; refine (hin _ _).mono ?_; rintro e w' ⟨rfl, hww⟩; subst w')
            go_ret
            exact ⟨by first | rfl | (rw [h5]; rfl), rfl⟩
          · have hyes : Hid (∀ (j : Nat) (hj : j < s.size), j < k + 1 → inB ((s[j]'hj).toNat : Int) = true) := fun j hj hjk => by
              by_cases h : j < k
              · exact hall.out j hj h
              · obtain rfl : j = k := by omega
                exact hv
            clear hno hall
            go_wp2_with (go_at_call 57; refine (hin _ _).mono ?_; rintro e w' ⟨rfl, hww⟩; subst w')
            go_roundw
            case rel => exact ⟨k + 1, by omega, by simp, by first | rfl | trivial, hyes⟩
            case measure => simp [intOf]; omega
        · have hks : k = s.size := by omega
          have h5 : nameB s = true := nameB_all hpos h16' fun j hj => hall.out j hj (by omega)
          clear hall
          go_wp2_with fail
          go_ret
          exact ⟨by first | rfl | (rw [h5]; rfl), rfl⟩
end Go.Proofs.Ytifkelpgpdgenaa
