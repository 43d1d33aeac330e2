/-
  What is proved here: which bytes may stand in a text, why one is refused, and what newRun, textOf and New answer.
-/
import Derived.Test.YtpippmbkdjcbeaaWalkE
namespace Go.Proofs.Ytpippmbkdjcbeaa
open Go.RowKit Go.Shelf

/-- May this byte stand? -/
def stI (c : Int) : Bool := decide (c = 1 ∨ c = 2 ∨ c = 3 ∨ c = 4 ∨ c = 9 ∨ c = 10 ∨ c = 31 ∨ (32 ≤ c ∧ c ≤ 126))
def mayB (l : List UInt8) : Bool := l.all fun c => stI (c.toNat : Int)
def runsOf (s : List UInt8) : List (List UInt8) := if s = [] then [] else [s]

set_option maxHeartbeats 1000000 in
theorem stands_any (c : Int) (h0 : 0 ≤ c) (h1 : c ≤ 255) (w : World) : Calls Try.prog 36 #[.int .u8 c] w fun e w' => e = .returned (.bool (stI c)) ∧ w' = w := by
  by_cases e1 : c = 1
  · subst e1; go_enter Try.func36, Try.ntmps36; go_wp2; go_ret; exact ⟨rfl, rfl⟩
  by_cases e2 : c = 2
  · subst e2; go_enter Try.func36, Try.ntmps36; go_wp2; go_ret; exact ⟨rfl, rfl⟩
  by_cases e3 : c = 3
  · subst e3; go_enter Try.func36, Try.ntmps36; go_wp2; go_ret; exact ⟨rfl, rfl⟩
  by_cases e4 : c = 4
  · subst e4; go_enter Try.func36, Try.ntmps36; go_wp2; go_ret; exact ⟨rfl, rfl⟩
  by_cases e9 : c = 9
  · subst e9; go_enter Try.func36, Try.ntmps36; go_wp2; go_ret; exact ⟨rfl, rfl⟩
  by_cases e10 : c = 10
  · subst e10; go_enter Try.func36, Try.ntmps36; go_wp2; go_ret; exact ⟨rfl, rfl⟩
  by_cases e31 : c = 31
  · subst e31; go_enter Try.func36, Try.ntmps36; go_wp2; go_ret; exact ⟨rfl, rfl⟩
  have b1 : (c == 1) = false := by simpa using e1
  have b2 : (c == 2) = false := by simpa using e2
  have b3 : (c == 3) = false := by simpa using e3
  have b4 : (c == 4) = false := by simpa using e4
  have b9 : (c == 9) = false := by simpa using e9
  have b10 : (c == 10) = false := by simpa using e10
  have b31 : (c == 31) = false := by simpa using e31
  by_cases h32 : 32 ≤ c
  · by_cases h126 : c ≤ 126
    · have hs : stI c = true := by unfold stI; exact decide_eq_true (.inr (.inr (.inr (.inr (.inr (.inr (.inr ⟨h32, h126⟩)))))))
      go_enter Try.func36, Try.ntmps36
      go_wp2
      go_ret
      exact ⟨by first | rfl | (rw [hs]; rfl), rfl⟩
    · have hs : stI c = false := by unfold stI; exact decide_eq_false (by omega)
      go_enter Try.func36, Try.ntmps36
      go_wp2
      go_ret
      exact ⟨by first | rfl | (rw [hs]; rfl), rfl⟩
  · have hs : stI c = false := by unfold stI; exact decide_eq_false (by omega)
    have hd : decide (32 ≤ c) = false := by simpa using h32
    go_enter Try.func36, Try.ntmps36
    go_wp2
    go_ret
    exact ⟨by first | rfl | (rw [hs]; rfl), rfl⟩

theorem mayB_take_succ (l : List UInt8) {k : Nat} (h : k < l.length) : mayB (l.take (k + 1)) = (mayB (l.take k) && stI (l[k].toNat : Int)) := by
  unfold mayB; rw [List.take_succ_eq_append_getElem h, List.all_append]; simp

set_option maxHeartbeats 1000000 in
theorem may_any (s : ByteArray) (hs : s.size ≤ maxLen) (w : World) : Calls Try.prog 20 #[.string s] w fun e w' => e = .returned (.bool (mayB s.data.toList)) ∧ w' = w := by
  unfold maxLen at hs
  go_enter Try.func20, Try.ntmps20
  go_wp2
  go_loopw [6] (fun i wr => wr = w ∧ ∃ k : Nat, k ≤ s.size ∧ i = .int .i64 k ∧ mayB (s.data.toList.take k) = true) (fun i _ => s.size - (intOf i).toNat)
  case atStart => exact ⟨rfl, 0, Nat.zero_le _, rfl, rfl⟩
  case round =>
    obtain ⟨rfl, k, hk, rfl, hm⟩ := hrel
    by_cases hlt : k < s.size
    · have hlt' : k < s.data.toList.length := by simpa using hlt
      have hms := mayB_take_succ s.data.toList hlt'
      have hidx : s.data.toList[k] = s[k] := rfl
      rw [hm, hidx] at hms
      have hbd : s[k].toNat < 256 := s[k].toNat_lt
      have HS : Hid (mayB (s.data.toList.take (k + 1)) = (true && stI (s[k].toNat : Int))) := hms
      clear hms hidx
      cases hst : stI (s[k].toNat : Int)
      · have hall : mayB s.data.toList = false := by
          have h2 := HS.out
          rw [hst] at h2
          cases hc : mayB s.data.toList
          · rfl
          · exfalso
            have h3 : mayB (s.data.toList.take (k + 1)) = true := by
              unfold mayB at hc ⊢
              exact List.all_eq_true.2 (fun x hx => List.all_eq_true.1 hc x (List.mem_of_mem_take hx))
            rw [h3] at h2; cases h2
        go_wp2_with (go_at_call 36; refine (stands_any _ (by omega) (by omega) _).mono ?_; rintro e w' ⟨rfl, rfl⟩)
        go_ret
        exact ⟨by first | rfl | (rw [hall]; rfl), rfl⟩
      · go_wp2_with (go_at_call 36; refine (stands_any _ (by omega) (by omega) _).mono ?_; rintro e w' ⟨rfl, rfl⟩)
        go_roundw
        case rel => exact ⟨trivial, k + 1, by omega, by simp, by rw [HS.out, hst]; rfl⟩
        case measure => simp [intOf]; omega
    · obtain rfl : k = s.size := by omega
      have hall : mayB s.data.toList = true := by rw [← hm]; congr 1; exact (List.take_of_length_le (by simp)).symm
      go_wp2
      go_ret
      exact ⟨by first | rfl | (rw [hall]; rfl), rfl⟩

/-- Why s may not come to a text of n bytes (0: it may). -/
def refuseI (s : List UInt8) (n : Nat) : Int := if mayB s = false then 4 else if 4096 - n < s.length then 8 else 0

set_option maxHeartbeats 1000000 in
theorem refuse_any (s : ByteArray) (hs : s.size ≤ maxLen) (n : Nat) (hn : n ≤ 4096) (w : World) : Calls Try.prog 24 #[.string s, .int .i64 n] w fun e w' => e = .returned (.int .i64 (refuseI s.data.toList n)) ∧ w' = w := by
  have hm := may_any s hs
  unfold maxLen at hs
  have hlen : s.data.toList.length = s.size := rfl
  cases hmb : mayB s.data.toList
  · have hr : refuseI s.data.toList n = 4 := by unfold refuseI; rw [if_pos hmb]
    go_enter Try.func24, Try.ntmps24
    go_wp2_with (go_at_call 20; refine (hm _).mono ?_; rintro e w' ⟨rfl, rfl⟩)
    go_ret
    exact ⟨by first | rfl | (rw [hr]; rfl), rfl⟩
  · by_cases hb : 4096 - n < s.size
    · have hr : refuseI s.data.toList n = 8 := by unfold refuseI; rw [if_neg (by rw [hmb]; decide), if_pos (by rw [hlen]; exact hb)]
      go_enter Try.func24, Try.ntmps24
      go_wp2_with (go_at_call 20; refine (hm _).mono ?_; rintro e w' ⟨rfl, rfl⟩)
      go_ret
      exact ⟨by first | rfl | (rw [hr]; rfl), rfl⟩
    · have hr : refuseI s.data.toList n = 0 := by unfold refuseI; rw [if_neg (by rw [hmb]; decide), if_neg (by rw [hlen]; exact hb)]
      go_enter Try.func24, Try.ntmps24
      go_wp2_with (go_at_call 20; refine (hm _).mono ?_; rintro e w' ⟨rfl, rfl⟩)
      go_ret
      exact ⟨by first | rfl | (rw [hr]; rfl), rfl⟩

set_option maxHeartbeats 400000 in
theorem clone_any (s : ByteArray) (hs : s.size ≤ 281474976710656) (w : World) : Calls Try.prog 38 #[.string s] w fun e w' => e = .returned (.string s) ∧ Below w.heap.size w w' := by
  go_enter Try.func38, Try.ntmps38
  go_wp2_with (go_at_call 46; refine (Try.stringslite_Clone s _ hs).mono ?_; rintro e w' ⟨rfl, hb⟩)
  go_ret
  exact ⟨rfl, hb⟩

theorem empty_iff (s : ByteArray) : s.toList.isEmpty = decide (s.data.toList = []) := by
  rw [ByteArray.toList_eq]
  cases s.data.toList <;> simp

theorem string_eta (s : ByteArray) : (⟨s.data.toList.toArray⟩ : ByteArray) = s := by apply ByteArray.ext; simp

set_option maxHeartbeats 1000000 in
theorem newRun_any (s : ByteArray) (hs : s.size ≤ 4096) (w : World) : Calls Try.prog 26 #[.string s] w fun e w' => ∃ v, e = .returned v ∧ w'.ownsRow w.heap.size 55 1 v (runsOf s.data.toList).length ((runsOf s.data.toList).map cellOf) ∧ Below w.heap.size w w' := by
  by_cases h0 : s.data.toList = []
  · have hne : s.toList.isEmpty = true := by rw [empty_iff]; exact decide_eq_true h0
    have hro : runsOf s.data.toList = [] := if_pos h0
    go_enter Try.func26, Try.ntmps26
    go_wp2
    go_ret
    rw [hro]
    exact ⟨_, rfl, World.ownsRow_nil _ _ _ _, Below.refl _ _⟩
  · have hne : s.toList.isEmpty = false := by rw [empty_iff]; exact decide_eq_false h0
    have hro : runsOf s.data.toList = [s.data.toList] := if_neg h0
    go_enter Try.func26, Try.ntmps26
    go_wp2_with (go_at_call 38; refine (clone_any _ (by omega) _).mono ?_; rintro e w1 ⟨rfl, hb⟩)
    go_ret
    rw [hro]
    refine ⟨_, rfl, ?_, hb.alloc hb.size _⟩
    have := World.ownsRow_lit (base := w.heap.size) (e := 55) (size := 1) w1 #[.string s] 1 hb.size (by unfold maxLen; omega) rfl
    simpa [cellOf, string_eta] using this

set_option maxHeartbeats 400000 in
theorem textOf_any (ao : Option Addr) (n c : Nat) (w : World) : Calls Try.prog 29 #[.slice ao n c] w fun e w' => e = .returned (.pointer (some ⟨w.heap.size, 0, none⟩)) ∧ w' = w.alloc (.cells #[.pointer (some ⟨w.heap.size, 0, none⟩), .slice ao n c] 25) := by
  go_enter Try.func29, Try.ntmps29
  go_wp2
  go_ret
  exact ⟨rfl, rfl⟩

theorem ownsRow_slice {w : World} {base : Nat} {e : TypeId} {size : Nat} {v : Value} {n : Nat} {xs : List Value} (h : w.ownsRow base e size v n xs) : ∃ ao n' c, v = .slice ao n' c := by
  rcases h.2 with ⟨hv, _⟩ | ⟨g, cap, cur, hv, _⟩
  · exact ⟨_, _, _, hv⟩
  · exact ⟨_, _, _, hv⟩

set_option maxHeartbeats 1000000 in
theorem new_no (s : ByteArray) (hs : s.size ≤ maxLen) (hr : refuseI s.data.toList 0 ≠ 0) (w : World) : Calls Try.prog 17 #[.string s] w fun e w' => e = .returned (.tuple #[.pointer none, .int .i64 (refuseI s.data.toList 0)]) ∧ w' = w := by
  have hrb : (refuseI s.data.toList 0 == 0) = false := beq_eq_false_iff_ne.2 hr
  have hrn := refuse_any s hs 0 (by omega)
  go_enter Try.func17, Try.ntmps17
  go_wp2_with (go_at_call 24; refine (hrn _).mono ?_; rintro e w' ⟨rfl, rfl⟩)
  go_ret2
  exact ⟨rfl, rfl⟩

set_option maxHeartbeats 1000000 in
theorem new_yes (s : ByteArray) (hs : s.size ≤ maxLen) (hr : refuseI s.data.toList 0 = 0) (w : World) : Calls Try.prog 17 #[.string s] w fun e w' => ∃ t sv, e = .returned (.tuple #[.pointer (some ⟨t, 0, none⟩), .int .i64 0]) ∧ w.heap.size ≤ t ∧ TextAt t sv (runsOf s.data.toList) w' ∧ Below w.heap.size w w' := by
  have hsz : s.size ≤ 4096 := by
    have hlen : s.data.toList.length = s.size := rfl
    unfold refuseI at hr
    split at hr
    · omega
    · split at hr
      · omega
      · omega
  have hrn := refuse_any s hs 0 (by omega)
  rw [hr] at hrn
  go_enter Try.func17, Try.ntmps17
  go_wp2_with (first | (go_at_call 24; refine (hrn _).mono ?_; rintro e w' ⟨rfl, rfl⟩) | (go_at_call 26; refine (newRun_any s hsz _).mono ?_; rintro e w1 ⟨v, rfl, hrow, hb⟩; obtain ⟨ao, n', c, rfl⟩ := ownsRow_slice hrow) | (go_at_call 29; refine (textOf_any _ _ _ _).mono ?_; rintro e w2 ⟨rfl, rfl⟩))
  go_ret2
  refine ⟨_, _, rfl, hb.size, ⟨World.alloc_heap_new _ _, ownsRow_base (hrow.alloc _) (Nat.zero_le _)⟩, hb.alloc hb.size _⟩

end Go.Proofs.Ytpippmbkdjcbeaa
