/-
  What is proved here: what the document's own Name, fits and At answer (for StyleScript).
  What is proved here: what the document's own fits answers of a list (for StyleScript).
-/
import Derived.Test.YtifkelpgpdgenaaXResolve
namespace Go.Proofs.Ytifkelpgpdgenaa
open Go.RowKit Go.Shelf

theorem inB_iff (x : Int) : inB x = true ↔ (97 ≤ x ∧ x ≤ 122) ∨ (48 ≤ x ∧ x ≤ 57) ∨ x = 45 := by simp [inB]

set_option maxRecDepth 100000 in
set_option maxHeartbeats 4000000 in
theorem refName_any (s : Str) (hs : s.size ≤ maxLen) (w : World) : Calls Try.prog 43 #[.string s] w fun e w' => e = .returned (.bool (nameB s)) ∧ w' = w := by
  have hs' : s.size ≤ 9223372036854775807 := by unfold maxLen at hs; omega
  go_enter Try.func43, Try.ntmps43
  go_wp2_with fail
  go_loopw [3] (fun i wr => ∃ k : Nat, k ≤ s.size ∧ i = .int .i64 k ∧ wr = w ∧ Hid (∀ (j : Nat) (hj : j < s.size), j < k → inB ((s[j]'hj).toNat : Int) = true)) (fun i _ => s.size - (intOf i).toNat)
  case atStart => exact ⟨0, by omega, rfl, rfl, fun j _ hj => by omega⟩
  case round =>
    obtain ⟨k, hk, rfl, rfl, hall⟩ := hrel
    by_cases hlt : k < s.size
    · have hno : Hid _ := nameB_no hlt
      have hyes : Hid (inB ((s[k]'hlt).toNat : Int) = true → ∀ (j : Nat) (hj : j < s.size), j < k + 1 → inB ((s[j]'hj).toNat : Int) = true) := fun hv j hj hjk => by
        by_cases h : j < k
        · exact hall.out j hj h
        · obtain rfl : j = k := by omega
          exact hv
      obtain ⟨x, hx⟩ : ∃ x : Int, ((s[k]'hlt).toNat : Int) = x := ⟨_, rfl⟩
      have hix : ∀ W, (Instr.index 9 (.string s) (.int .i64 k)).run Try.prog W = .ok (.int .u8 x) W := fun W => by
        rw [run_index_string W 9 s .i64 k Try.underlying9, dif_pos (by omega)]
        simp only [Int.toNat_natCast]
        rw [hx]
      rw [hx] at hno hyes
      have hc : x < 45 ∨ x = 45 ∨ (45 < x ∧ x < 48) ∨ (48 ≤ x ∧ x ≤ 57) ∨ (57 < x ∧ x < 97) ∨ (97 ≤ x ∧ x ≤ 122) ∨ 122 < x := by omega
      have f1 : (x == 45) = decide (x = 45) := by by_cases h : x = 45 <;> simp [h]
      clear hall hx
      rcases hc with h | h | h | h | h | h | h
      · have e1 : inB x = false := by
          cases hb : inB x with
          | false => rfl
          | true => rw [inB_iff] at hb; omega
        have hn := hno.out e1
        clear hyes hno
        go_wp2_with fail
        go_ret
        exact ⟨by first | rfl | (rw [hn]; rfl), rfl⟩
        all_goals (exfalso; rename_i hz; simp only [Bool.not_eq_false', decide_eq_true_eq] at hz; omega)
      · have e1 : inB x = true := by rw [inB_iff]; omega
        have hy := hyes.out e1
        replace hy : Hid _ := hy
        clear hyes hno
        go_wp2_with fail
        go_roundw
        case rel => exact ⟨k + 1, by omega, by simp, by first | rfl | trivial, hy⟩
        case measure => simp [intOf]; omega
      · have e1 : inB x = false := by
          cases hb : inB x with
          | false => rfl
          | true => rw [inB_iff] at hb; omega
        have hn := hno.out e1
        clear hyes hno
        go_wp2_with fail
        go_ret
        exact ⟨by first | rfl | (rw [hn]; rfl), rfl⟩
        all_goals (exfalso; rename_i hz; simp only [Bool.not_eq_false', decide_eq_true_eq] at hz; omega)
      · have e1 : inB x = true := by rw [inB_iff]; omega
        have hy := hyes.out e1
        replace hy : Hid _ := hy
        clear hyes hno
        go_wp2_with fail
        go_roundw
        case rel => exact ⟨k + 1, by omega, by simp, by first | rfl | trivial, hy⟩
        case measure => simp [intOf]; omega
      · have e1 : inB x = false := by
          cases hb : inB x with
          | false => rfl
          | true => rw [inB_iff] at hb; omega
        have hn := hno.out e1
        clear hyes hno
        go_wp2_with fail
        go_ret
        exact ⟨by first | rfl | (rw [hn]; rfl), rfl⟩
        all_goals (exfalso; rename_i hz; simp only [Bool.not_eq_false', decide_eq_true_eq] at hz; omega)
      · have e1 : inB x = true := by rw [inB_iff]; omega
        have hy := hyes.out e1
        replace hy : Hid _ := hy
        clear hyes hno
        go_wp2_with fail
        go_roundw
        case rel => exact ⟨k + 1, by omega, by simp, by first | rfl | trivial, hy⟩
        case measure => simp [intOf]; omega
      · have e1 : inB x = false := by
          cases hb : inB x with
          | false => rfl
          | true => rw [inB_iff] at hb; omega
        have hn := hno.out e1
        clear hyes hno
        go_wp2_with fail
        go_ret
        exact ⟨by first | rfl | (rw [hn]; rfl), rfl⟩
        all_goals (exfalso; rename_i hz; simp only [Bool.not_eq_false', decide_eq_true_eq] at hz; omega)
    · have hks : k = s.size := by omega
      by_cases h1 : 0 < s.size
      · by_cases h2 : s.size ≤ 16
        · have h5 : nameB s = true := nameB_all h1 h2 fun j hj => hall.out j hj (by omega)
          have h1' : (1 : Int) ≤ (s.size : Int) := by omega
          have h2' : (s.size : Int) ≤ 16 := by omega
          clear hall
          go_wp2_with fail
          go_ret
          exact ⟨by first | rfl | (rw [h5]; rfl), rfl⟩
        · have h5 : nameB s = false := by unfold nameB; rw [decide_eq_false h2]; simp
          have h1' : (1 : Int) ≤ (s.size : Int) := by omega
          have h2' : ¬ (s.size : Int) ≤ 16 := by omega
          clear hall
          go_wp2_with fail
          go_ret
          exact ⟨by first | rfl | (rw [h5]; rfl), rfl⟩
      · have h5 : nameB s = false := by unfold nameB; rw [decide_eq_false h1]; simp
        have h1' : ¬ (1 : Int) ≤ (s.size : Int) := by omega
        clear hall
        go_wp2_with fail
        go_ret
        exact ⟨by first | rfl | (rw [h5]; rfl), rfl⟩
end Go.Proofs.Ytifkelpgpdgenaa

namespace Go.Proofs.Ytifkelpgpdgenaa
open Go.RowKit Go.Shelf

set_option maxRecDepth 100000 in
set_option maxHeartbeats 2000000 in
theorem refFitsL_any (v : Value) (qs : List (Int × Int)) (w : World) (hS : SetsAt w v qs) :
    Calls Try.prog 45 #[v] w fun e w' => e = .returned (.int .i64 (refuseL qs)) ∧ Below w.heap.size w w' := by
  obtain ⟨a, cap, rfl, h2⟩ := hS.ex
  have hlen := hS.few
  clear hS
  by_cases h64 : 64 < qs.length
  · have hr : refuseL qs = 3 := by unfold refuseL; rw [if_pos h64]
    rw [hr]
    go_enter Try.func45, Try.ntmps45
    go_wp2_with fail
    go_ret
    exact ⟨rfl, Below.refl _ _⟩
  · have hr : Hid (refuseL qs = if qs.all (fun q => mayS q.1 q.2) then 0 else 2) := by unfold refuseL; rw [if_neg h64]; exact rfl
    go_enter Try.func45, Try.ntmps45
    go_wp2_with fail
    go_loopw [3] (fun i wr => ∃ k : Nat, k ≤ qs.length ∧ i = .int .i64 k ∧ Below w.heap.size w wr ∧ Hid ((qs.take k).all (fun q => mayS q.1 q.2) = true)) (fun i _ => qs.length - (intOf i).toNat)
    case atStart => exact ⟨0, by omega, rfl, Below.refl _ _, rfl⟩
    case round =>
      obtain ⟨k, hk, rfl, hb, hall⟩ := hrel
      by_cases hlt : k < qs.length
      · rcases h2 with h2 | ⟨b, o, rfl, hbl, hc⟩
        · rw [h2] at hlt; simp at hlt
        · obtain ⟨c0, c1⟩ := hc k hlt
          have hw : ∀ j v, w.cell? ⟨b, j, none⟩ = some v → wr.cell? ⟨b, j, none⟩ = some v := fun j v hv => by rw [← hv]; exact hb.cell hbl
          have d0 := hw _ _ c0; have d1 := hw _ _ c1
          clear hw c0 c1 hc
          have hmay := refFits_any qs[k].1 qs[k].2
          have hno : Hid _ := all_no hlt
          have hyes : Hid _ := all_take_succ hlt hall
          unfold seV at hmay
          generalize qs[k].1 = x at *
          generalize qs[k].2 = y at *
          cases hm : mayS x y
          · rw [hm] at hmay
            have h5 : refuseL qs = 2 := by rw [hr.out, hno.out hm]; rfl
            clear hno hyes hall hr
            go_wp2_with (go_at_call 18; refine (hmay _).mono ?_; rintro e w' ⟨rfl, hb'⟩)
            go_ret
            exact ⟨by first | rfl | (rw [h5]; rfl), hb.trans (hb'.mono hb.size)⟩
          · rw [hm] at hmay
            have h5 : Hid _ := hyes.out hm
            clear hno hyes hall hr
            go_wp2_with (go_at_call 18; refine (hmay _).mono ?_; rintro e w' ⟨rfl, hb'⟩)
            go_roundw
            case rel => exact ⟨k + 1, by omega, by simp, hb.trans (hb'.mono hb.size), h5⟩
            case measure => simp [intOf]; omega
      · obtain rfl : k = qs.length := by omega
        have h5 : refuseL qs = 0 := by
          have := hall.out
          rw [List.take_length] at this
          rw [hr.out, this]; rfl
        clear hall hr
        go_wp2_with fail
        go_ret
        exact ⟨by first | rfl | (rw [h5]; rfl), hb⟩
end Go.Proofs.Ytifkelpgpdgenaa
