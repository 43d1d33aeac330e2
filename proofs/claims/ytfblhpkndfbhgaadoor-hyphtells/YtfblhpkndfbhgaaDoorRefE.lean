/-
  What is proved here: what the document's exception answers.
-/
import Derived.Test.YtfblhpkndfbhgaaDoorFoldM
import Derived.Test.YtfblhpkndfbhgaaDoorAid
namespace Go.Proofs.YtfblhpkndfbhgaaDoor
open Go.RowKit Go.Shelf

/-- Parts of letters, with a sign between: the flag says that a part begins here. -/
def pq : Bool → Bs → Bool
  | b, [] => !b
  | b, c :: l => if c == 45 then (!b && pq true l) else (sml c && pq false l)
theorem pq_parts : ∀ l : Bs, pq true l = (parts l).all partB ∧ ∃ h t, parts l = h :: t ∧ pq false l = (h.all sml && t.all partB)
  | [] => ⟨rfl, [], [], rfl, rfl⟩
  | c :: l => by
    obtain ⟨h1, h, t, h2, h3⟩ := pq_parts l
    by_cases hc : (c == 45) = true
    · refine ⟨?_, [], parts l, ?_, ?_⟩
      · rw [pq, if_pos hc, parts, if_pos hc]; rfl
      · rw [parts, if_pos hc]
      · rw [pq, if_pos hc, h1]; rfl
    · refine ⟨?_, c :: h, t, ?_, ?_⟩
      · rw [pq, if_neg hc, parts, if_neg hc, h2, h3]
        simp [partB, Bool.and_assoc]
      · rw [parts, if_neg hc, h2]
      · rw [pq, if_neg hc, h3]
        simp [Bool.and_assoc]
theorem pq_len : ∀ (l : Bs) (b : Bool), pq b l = true → l.count 45 + (if b then 1 else 0) ≤ l.length - l.count 45
  | [], b, h => by cases b <;> simp [pq] at h ⊢
  | c :: l, b, h => by
    have hle := count_le l
    by_cases hc : (c == 45) = true
    · rw [pq, if_pos hc] at h
      simp only [Bool.and_eq_true, Bool.not_eq_true'] at h
      have ih := pq_len l true h.2
      rw [List.count_cons, if_pos hc, List.length_cons, h.1]
      simp at ih ⊢
      omega
    · rw [pq, if_neg hc, Bool.and_eq_true] at h
      have ih := pq_len l false h.2
      rw [List.count_cons, if_neg hc, List.length_cons]
      simp at ih
      cases b <;> simp <;> omega
theorem pq_last : ∀ (l : Bs) (b : Bool) (c : UInt8), l.getLast? = some c → c = 45 → pq b l = false
  | [], _, _, h, _ => by cases h
  | [c], b, d, h, hd => by
    simp at h
    subst h hd
    cases b <;> rfl
  | c :: e :: l, b, d, h, hd => by
    have h' : (e :: l).getLast? = some d := by rw [List.getLast?_cons_cons] at h; exact h
    have i1 := pq_last (e :: l) true d h' hd
    have i2 := pq_last (e :: l) false d h' hd
    rw [pq, i1, i2]
    simp
theorem bare_len : ∀ l : Bs, (bare l).length = l.length - l.count 45
  | [] => rfl
  | c :: l => by
    have ih := bare_len l
    have hle := count_le l
    unfold bare at ih ⊢
    rw [List.filter_cons, List.count_cons]
    by_cases hc : (c == 45) = true
    · rw [if_neg (by rw [hc]; decide), if_pos hc, ih, List.length_cons]; omega
    · rw [if_pos (by simpa using hc), if_neg hc, List.length_cons, List.length_cons, ih]; omega
theorem excB_is (l : Bs) : excB l = (decide (2 ≤ (bare l).length) && (decide ((bare l).length ≤ 64) && pq true l)) := by
  unfold excB
  rw [bare_len, (pq_parts l).1]
theorem excB_long {l : Bs} (h : 128 < l.length) : excB l = false := by
  rw [excB_is]
  cases hp : pq true l with
  | false => simp
  | true =>
    have := pq_len l true hp
    have := count_le l
    rw [decide_eq_false (p := (bare l).length ≤ 64) (by rw [bare_len]; simp at *; omega)]
    simp
theorem excB_first {l : Bs} (h : l.getD 0 0 = 45) : excB l = false := by
  cases l with
  | nil => rw [excB_is]; rfl
  | cons c l =>
    have hc : c = 45 := h
    subst hc
    rw [excB_is]
    simp [pq]
theorem excB_last {l : Bs} (hl : 0 < l.length) (h : l.getD (l.length - 1) 0 = 45) : excB l = false := by
  rw [excB_is, pq_last l true 45 (by
    rw [List.getLast?_eq_getElem?, List.getElem?_eq_getElem (by omega)]
    rw [List.getD_eq_getElem?_getD, List.getElem?_eq_getElem (by omega)] at h
    exact congrArg some h) rfl]
  simp
/-- Whether a part begins at a place. -/
def begB (l : Bs) (k : Nat) : Bool := decide (k = 0) || (l.getD (k - 1) 0 == 45)
theorem pq_drop {l : Bs} {k : Nat} (h : k < l.length) : pq (begB l k) (l.drop k) = if l.getD k 0 == 45 then (!(begB l k) && pq true (l.drop (k + 1))) else (sml (l.getD k 0) && pq false (l.drop (k + 1))) := by
  rw [List.drop_eq_getElem_cons h, pq, List.getD_eq_getElem?_getD, List.getElem?_eq_getElem h]
  rfl
theorem begB_succ (l : Bs) (k : Nat) : begB l (k + 1) = (l.getD k 0 == 45) := by
  unfold begB
  rw [decide_eq_false (by omega)]; rfl
theorem beqJ {c : UInt8} {n : Nat} (hn : n < 256) : ((c.toNat : Int) == (n : Int)) = (c == UInt8.ofNat n) := by
  have h1 : (UInt8.ofNat n).toNat = n := by simp; omega
  rw [Bool.eq_iff_iff, beq_iff_eq, beq_iff_eq]
  constructor
  · intro h
    exact UInt8.toNat_inj.1 (by rw [h1]; omega)
  · rintro rfl; rw [h1]
set_option maxRecDepth 100000 in
set_option maxHeartbeats 4000000 in
theorem exception_any (s : ByteArray) (hs : s.size ≤ 1000000) (w : World) : Calls Tryd.prog 33 #[.string s] w fun e w' => e = .returned (.bool (excB (bs s))) ∧ w' = w := by
  have hB := bare_any s hs w
  have hbs : (bs s).length = s.size := size_ba s
  obtain ⟨q, hq⟩ : ∃ q : ByteArray, (⟨(bare (bs s)).toArray⟩ : ByteArray) = q := ⟨_, rfl⟩
  have hql : (bare (bs s)).length = q.size := by rw [← hq]; rfl
  have hqs : q.size ≤ s.size := by rw [← hql, ← hbs]; exact List.length_filter_le _ _
  have hgD : ∀ (j : Nat) (h : j < s.size), (bs s).getD j 0 = s[j]'h := fun j h => getD_ba h
  rw [hq] at hB
  clear hq
  by_cases h1 : q.size < 2
  · have e : excB (bs s) = false := by rw [excB_is, hql, decide_eq_false (by omega)]; rfl
    rw [e]
    have f1 : (q.size : Int) < 2 := by omega
    clear e hgD
    go_enter Tryd.func33, Tryd.ntmps33
    go_wp2_with (go_at_call 25; refine hB.mono ?_; rintro e w' ⟨rfl, hww⟩; subst w')
    go_ret
    exact ⟨rfl, rfl⟩
  have f1 : ¬ (q.size : Int) < 2 := by omega
  by_cases h2 : 64 < q.size
  · have e : excB (bs s) = false := by rw [excB_is, hql, decide_eq_false (p := q.size ≤ 64) (by omega)]; simp
    rw [e]
    have f2 : (64 : Int) < q.size := by omega
    clear e hgD
    go_enter Tryd.func33, Tryd.ntmps33
    go_wp2_with (go_at_call 25; refine hB.mono ?_; rintro e w' ⟨rfl, hww⟩; subst w')
    go_ret
    exact ⟨rfl, rfl⟩
  have f2 : ¬ (64 : Int) < q.size := by omega
  by_cases h3 : 128 < s.size
  · have e : excB (bs s) = false := excB_long (by omega)
    rw [e]
    have f3 : (128 : Int) < s.size := by omega
    clear e hgD
    go_enter Tryd.func33, Tryd.ntmps33
    go_wp2_with (go_at_call 25; refine hB.mono ?_; rintro e w' ⟨rfl, hww⟩; subst w')
    go_ret
    exact ⟨rfl, rfl⟩
  have f3 : ¬ (128 : Int) < s.size := by omega
  have hz : 0 < s.size := by omega
  have hzI : (0 : Int) < s.size := by omega
  have e0 : (((s[0]'hz).toNat : Int) == 45) = ((s[0]'hz) == 45) := beqJ (n := 45) (by decide)
  cases h4 : ((s[0]'hz) == 45) with
  | true =>
    have e : excB (bs s) = false := excB_first (by rw [hgD 0 hz]; simpa using h4)
    rw [e]
    rw [h4] at e0
    clear e hgD h4
    go_enter Tryd.func33, Tryd.ntmps33
    go_wp2_with (go_at_call 25; refine hB.mono ?_; rintro e w' ⟨rfl, hww⟩; subst w')
    go_ret
    exact ⟨rfl, rfl⟩
  | false =>
  obtain ⟨j, hj⟩ : ∃ j, s.size - 1 = j := ⟨_, rfl⟩
  have hjI : (s.size : Int) - 1 = j := by omega
  have hjl : j < s.size := by omega
  have e1 : (((s[j]'hjl).toNat : Int) == 45) = ((s[j]'hjl) == 45) := beqJ (n := 45) (by decide)
  rw [h4] at e0
  cases h5 : ((s[j]'hjl) == 45) with
  | true =>
    have e : excB (bs s) = false := excB_last (by omega) (by rw [hbs, hj, hgD j hjl]; simpa using h5)
    rw [e]
    rw [h5] at e1
    have hjh : Hid (s.size - 1 = j) := hj
    clear e hgD h4 h5 hj
    go_enter Tryd.func33, Tryd.ntmps33
    go_wp2_with (go_at_call 25; refine hB.mono ?_; rintro e w' ⟨rfl, hww⟩; subst w')
    go_ret
    exact ⟨rfl, rfl⟩
  | false =>
  rw [h5] at e1
  have e : excB (bs s) = pq (begB (bs s) 0) ((bs s).drop 0) := by
    rw [excB_is, hql, decide_eq_true (by omega), decide_eq_true (p := q.size ≤ 64) (by omega)]; rfl
  rw [e]
  have hin : Hid (pq (begB (bs s) 0) ((bs s).drop 0) = pq (begB (bs s) 0) ((bs s).drop 0)) := rfl
  generalize hr : pq (begB (bs s) 0) ((bs s).drop 0) = r at *
  have hgDh : Hid (∀ (j : Nat) (h : j < s.size), (bs s).getD j 0 = s[j]'h) := hgD
  have hstep : Hid (∀ (k : Nat) (h : k < s.size), pq (begB (bs s) k) ((bs s).drop k) = if (s[k]'h) == 45 then (!(begB (bs s) k) && pq true ((bs s).drop (k + 1))) else (sml (s[k]'h) && pq false ((bs s).drop (k + 1)))) := fun k h => by
    rw [pq_drop (by omega), hgD k h]
  have hbsu : Hid (∀ (k : Nat) (h : k < s.size), begB (bs s) (k + 1) = ((s[k]'h) == 45)) := fun k h => by rw [begB_succ, hgD k h]
  have hend : Hid (pq (begB (bs s) s.size) ((bs s).drop s.size) = true) := by
    have h6 : begB (bs s) s.size = false := by
      rw [show s.size = j + 1 by omega, begB_succ, hgD j hjl, h5]
    show _ = _
    rw [h6, List.drop_of_length_le (by omega)]; rfl
  have hjh : Hid (s.size - 1 = j) := hj
  have h4h : Hid (((s[0]'hz) == 45) = false) := h4
  have hr' : Hid (r = pq (begB (bs s) 0) ((bs s).drop 0)) := hr.symm
  clear e hin hgD h4 h5 hj hbs hql h1 h2 h3 hr
  go_enter Tryd.func33, Tryd.ntmps33
  go_wp2_with (go_at_call 25; refine hB.mono ?_; rintro e w' ⟨rfl, hww⟩; subst w')
  clear hB e0 e1
  go_loopw [4] (fun i wr => ∃ k : Nat, k ≤ s.size ∧ i = .int .i64 k ∧ wr = w ∧ Hid (r = pq (begB (bs s) k) ((bs s).drop k))) (fun i _ => s.size - (intOf i).toNat)
  case atStart => exact ⟨0, by omega, rfl, rfl, hr'⟩
  case round =>
    obtain ⟨k, hk, rfl, rfl, hin⟩ := hrel
    by_cases hlt : k < s.size
    · have hkl : (k : Int) < s.size := by omega
      have hst := hstep.out k hlt
      have hbk := hbsu.out k hlt
      have e45 : (((s[k]'hlt).toNat : Int) == 45) = ((s[k]'hlt) == 45) := beqJ (n := 45) (by decide)
      have hin0 := hin.out
      rw [hst] at hin0
      cases hc : ((s[k]'hlt) == 45) with
      | false =>
        have eP : ¬ ((s[k]'hlt).toNat : Int) = 45 := by rw [hc] at e45; exact beq_eq_false_iff_ne.1 e45
        rw [hc] at hin0 hbk e45
        rw [if_neg (by decide)] at hin0
        cases hm : sml (s[k]'hlt) with
        | false =>
          have hm' : smI ((s[k]'hlt).toNat : Int) = false := hm
          rw [hm, Bool.false_and] at hin0
          subst hin0
          clear hin hst hbk hc hm hstep hbsu hend hgDh hr' h4h
          go_wp2_with (go_at_call 42; refine (rsmall_any _ wr).mono ?_; rintro e w' ⟨rfl, hww⟩; subst w'; rw [hm'])
          go_ret
          exact ⟨rfl, rfl⟩
        | true =>
          have hm' : smI ((s[k]'hlt).toNat : Int) = true := hm
          rw [hm, Bool.true_and] at hin0
          have hin2 : Hid (r = pq (begB (bs s) (k + 1)) ((bs s).drop (k + 1))) := by rw [hbk]; exact hin0
          have h0 : ((0 : Int) < k) ∨ ¬ ((0 : Int) < k) := by omega
          clear hin hst hbk hc hm hstep hbsu hend hgDh hr' h4h hin0
          rcases h0 with h0 | h0
          · go_wp2_with (go_at_call 42; refine (rsmall_any _ wr).mono ?_; rintro e w' ⟨rfl, hww⟩; subst w'; rw [hm'])
            go_roundw
            case rel => exact ⟨k + 1, by omega, by simp, by first | rfl | trivial, hin2⟩
            case measure => simp [intOf]; omega
          · go_wp2_with (go_at_call 42; refine (rsmall_any _ wr).mono ?_; rintro e w' ⟨rfl, hww⟩; subst w'; rw [hm'])
            go_roundw
            case rel => exact ⟨k + 1, by omega, by simp, by first | rfl | trivial, hin2⟩
            case measure => simp [intOf]; omega
      | true =>
        have eP : ((s[k]'hlt).toNat : Int) = 45 := by rw [hc] at e45; exact beq_iff_eq.1 e45
        have h45 : smI 45 = false := by decide
        rw [hc] at hin0 hbk e45
        rw [if_pos rfl] at hin0
        have hm' : smI ((s[k]'hlt).toNat : Int) = false := by
          rw [show (s[k]'hlt) = 45 by simpa using hc]; decide
        have hk0 : ¬ k = 0 := by
          rintro rfl
          rw [h4h.out] at hc; cases hc
        have f0 : (0 : Int) < k := by omega
        obtain ⟨i, hi⟩ : ∃ i, k - 1 = i := ⟨_, rfl⟩
        have hiI : (k : Int) - 1 = i := by omega
        have hil : i < s.size := by omega
        have ei : (((s[i]'hil).toNat : Int) == 45) = ((s[i]'hil) == 45) := beqJ (n := 45) (by decide)
        have hbi : begB (bs s) k = ((s[i]'hil) == 45) := by rw [show k = i + 1 by omega]; exact hbsu.out i hil
        rw [hbi] at hin0
        have hih : Hid (k - 1 = i ∧ ¬ k = 0) := ⟨hi, hk0⟩
        cases hp : ((s[i]'hil) == 45) with
        | true =>
          rw [hp] at hin0 ei
          rw [Bool.not_true, Bool.false_and] at hin0
          subst hin0
          clear hin hst hbk hc hstep hbsu hend hgDh hr' h4h hi hk0 hp hbi
          go_wp2_with (go_at_call 42; refine (rsmall_any _ wr).mono ?_; rintro e w' ⟨rfl, hww⟩; subst w'; first | rw [hm'] | rw [h45])
          go_ret
          exact ⟨rfl, rfl⟩
        | false =>
          rw [hp] at hin0 ei
          rw [Bool.not_false, Bool.true_and] at hin0
          have hin2 : Hid (r = pq (begB (bs s) (k + 1)) ((bs s).drop (k + 1))) := by rw [hbk]; exact hin0
          clear hin hst hbk hc hstep hbsu hend hgDh hr' h4h hi hk0 hp hbi hin0
          go_wp2_with (go_at_call 42; refine (rsmall_any _ wr).mono ?_; rintro e w' ⟨rfl, hww⟩; subst w'; first | rw [hm'] | rw [h45])
          go_roundw
          case rel => exact ⟨k + 1, by omega, by simp, by first | rfl | trivial, hin2⟩
          case measure => simp [intOf]; omega
    · obtain rfl : k = s.size := by omega
      have hin0 := hin.out
      rw [hend.out] at hin0
      subst hin0
      clear hin hstep hbsu hend hgDh hr' h4h
      go_wp2_with fail
      go_ret
      exact ⟨rfl, rfl⟩
end Go.Proofs.YtfblhpkndfbhgaaDoor
