/-
  What is proved here: what the document's Letters and pattern answer.
-/
import Derived.Test.YtfblhpkndfbhgaaDoorRefPM
import Derived.Test.YtfblhpkndfbhgaaDoorAid
namespace Go.Proofs.YtfblhpkndfbhgaaDoor
open Go.RowKit Go.Shelf

theorem ltrs_add (l : Bs) (c : UInt8) : ltrs (l ++ [c]) = if dgt c then ltrs l else ltrs l ++ [c] := by
  unfold ltrs
  rw [List.filter_append]
  by_cases h : dgt c = true <;> simp [h]
set_option maxRecDepth 100000 in
set_option maxHeartbeats 1000000 in
theorem letters_any (s : ByteArray) (hs : s.size ≤ 1000000) (w : World) : Calls Tryd.prog 63 #[.string s] w fun e w' => e = .returned (.string ⟨(ltrs (bs s)).toArray⟩) ∧ w' = w := by
  have hW : Hid (s.data.toList.take s.size = s.data.toList) := take_all_ba s
  go_enter Tryd.func63, Tryd.ntmps63
  go_wp2_with fail
  go_loopw [3, 4] (fun o i wr => ∃ (k : Nat) (q : ByteArray), k ≤ s.size ∧ i = .int .i64 k ∧ o = .string q ∧ wr = w ∧ Hid (q = ⟨(ltrs (s.data.toList.take k)).toArray⟩)) (fun _ i _ => s.size - (intOf i).toNat)
  case atStart => exact ⟨0, ⟨#[]⟩, by omega, rfl, rfl, rfl, rfl⟩
  case round =>
    obtain ⟨k, q, hk, rfl, rfl, rfl, hq⟩ := hrel
    by_cases hlt : k < s.size
    · have ht1 := take_succ_ba hlt
      have hD := rdigit_any ((s[k]'hlt).toNat : Int) wr
      cases hc : dgt (s[k]'hlt) with
      | true =>
        have hq2 : Hid (q = ⟨(ltrs (s.data.toList.take (k + 1))).toArray⟩) := by
          show _ = _
          rw [ht1, ltrs_add, if_pos hc]; exact hq.out
        rw [show dgI ((s[k]'hlt).toNat : Int) = true from hc] at hD
        clear ht1 hq hc hW
        go_wp2_with (go_at_call 53; refine hD.mono ?_; rintro e w' ⟨rfl, hww⟩; subst w')
        go_roundw
        case rel => exact ⟨k + 1, q, by omega, by simp, rfl, by first | rfl | trivial, hq2⟩
        case measure => simp [intOf]; omega
      | false =>
        obtain ⟨x, hx⟩ : ∃ x, s.extract k (k + 1) = x := ⟨_, rfl⟩
        have hq2 : Hid (q ++ x = ⟨(ltrs (s.data.toList.take (k + 1))).toArray⟩) := by
          show _ = _
          rw [ht1, ltrs_add, if_neg (by rw [hc]; decide), hq.out, ba_append, ← hx, extract_one hlt]
        have f3 : ¬ 9223372036854775807 < q.size + x.size := by
          have h1 : q.size ≤ k := by
            rw [← size_ba, hq.out]
            exact Nat.le_trans (List.length_filter_le _ _) (by rw [List.length_take]; omega)
          have h2 : x.size = 1 := by rw [← hx, extract_one hlt]; rfl
          omega
        rw [show dgI ((s[k]'hlt).toNat : Int) = false from hc] at hD
        clear ht1 hq hc hW
        go_wp2_with (go_at_call 53; refine hD.mono ?_; rintro e w' ⟨rfl, hww⟩; subst w')
        go_roundw
        case rel => exact ⟨k + 1, q ++ x, by omega, by simp, by first | rfl | (congr 1), by first | rfl | trivial, hq2⟩
        case measure => simp [intOf]; omega
    · obtain rfl : k = s.size := by omega
      rw [hW.out] at hq
      have := hq.out
      subst this
      clear hq hW
      go_wp2_with fail
      go_ret
      exact ⟨rfl, rfl⟩
theorem beqI {c : UInt8} {n : Nat} (hn : n < 256) : ((c.toNat : Int) == (n : Int)) = (c == UInt8.ofNat n) := by
  have h1 : (UInt8.ofNat n).toNat = n := by simp; omega
  rw [Bool.eq_iff_iff, beq_iff_eq, beq_iff_eq]
  constructor
  · intro h
    exact UInt8.toNat_inj.1 (by rw [h1]; omega)
  · rintro rfl; rw [h1]
set_option maxRecDepth 100000 in
set_option maxHeartbeats 4000000 in
theorem pattern_any (s : ByteArray) (w : World) : Calls Tryd.prog 32 #[.string s] w fun e w' => e = .returned (.bool (patB (bs s))) ∧ w' = w := by
  rw [← rPat_is]
  by_cases h16 : s.size < 1 ∨ 16 < s.size
  · have e : rPat (bs s) = false := by
      unfold rPat
      rw [show (bs s).length = s.size from size_ba s]
      rcases h16 with h | h
      · rw [decide_eq_false (by omega)]; rfl
      · rw [decide_eq_false (p := s.size ≤ 16) (by omega)]; simp
    rw [e]
    clear e
    have h17 : ((s.size : Int) < 1) ∨ (¬ (s.size : Int) < 1 ∧ (16 : Int) < s.size) := by omega
    clear h16
    rcases h17 with g1 | ⟨g1, g2⟩
    · go_enter Tryd.func32, Tryd.ntmps32
      go_wp2_with fail
      go_ret
      exact ⟨rfl, rfl⟩
    · go_enter Tryd.func32, Tryd.ntmps32
      go_wp2_with fail
      go_ret
      exact ⟨rfl, rfl⟩
  · have g1 : ¬ (s.size : Int) < 1 := by omega
    have g2 : ¬ (16 : Int) < s.size := by omega
    have hno : Hid (∀ (k : Nat), k < s.size → rOk (bs s) k = false → rPat (bs s) = false) := fun k h hk => by
      show _ = _
      unfold rPat
      have : (List.range (bs s).length).all (rOk (bs s)) = false := by
        rw [List.all_eq_false]
        exact ⟨k, List.mem_range.2 (by rw [show (bs s).length = s.size from size_ba s]; exact h), by simp [hk]⟩
      rw [this]; simp
    have hfin : Hid (∀ m : Nat, (List.range s.size).all (rOk (bs s)) = true → m = ((s.data.toList.take s.size).filter sml).length → rPat (bs s) = decide (0 < m)) := by
      rintro m h rfl
      unfold rPat
      rw [show (bs s).length = s.size from size_ba s, h, take_all_ba, decide_eq_true (by omega), decide_eq_true (p := s.size ≤ 16) (by omega)]; rfl
    have hsm : Hid (∀ (k : Nat) (h : k < s.size), ((s.data.toList.take (k + 1)).filter sml).length = ((s.data.toList.take k).filter sml).length + (if sml (s[k]'h) then 1 else 0)) := fun k h => by rw [take_succ_ba h, filter_snoc]
    have hok : Hid (∀ (k : Nat) (h : k < s.size), rOk (bs s) k = ((sml (s[k]'h) || (dgt (s[k]'h) || ((s[k]'h) == 46 && (decide (k = 0) || decide (k = s.size - 1))))) && !(dgt (s[k]'h) && ((decide (0 < k) && dgt ((bs s).getD (k - 1) 0)) || ((decide (k = s.size - 1) && (decide (0 < k) && ((bs s).getD (k - 1) 0 == 46))) || (decide (k = 0) && (decide (1 < s.size) && ((bs s).getD 1 0 == 46)))))))) := fun k h => by
      rw [rOk, show (bs s).getD k 0 = s[k]'h from getD_ba h, show (bs s).length = s.size from size_ba s]
    have hpv : Hid (∀ (j : Nat) (h : j < s.size), (bs s).getD j 0 = s[j]'h) := fun j h => getD_ba h
    have hrs : Hid (∀ (k : Nat), (List.range k).all (rOk (bs s)) = true → rOk (bs s) k = true → (List.range (k + 1)).all (rOk (bs s)) = true) := fun k => range_all_succ
    generalize rPat (bs s) = r at *
    generalize rOk (bs s) = okf at *
    have hsz : Hid (1 ≤ s.size ∧ s.size ≤ 16) := ⟨by omega, by omega⟩
    clear h16
    go_enter Tryd.func32, Tryd.ntmps32
    go_wp2_with fail
    go_loopw [3, 4] (fun n i wr => ∃ (k m : Nat), k ≤ s.size ∧ m ≤ k ∧ i = .int .i64 k ∧ n = .int .i64 m ∧ wr = w ∧ Hid ((List.range k).all okf = true) ∧ Hid (m = ((s.data.toList.take k).filter sml).length)) (fun _ i _ => s.size - (intOf i).toNat)
    case atStart => exact ⟨0, 0, by omega, by omega, rfl, rfl, rfl, rfl, rfl⟩
    case round =>
      obtain ⟨k, m, hk, hmk, rfl, rfl, rfl, ha, hm⟩ := hrel
      by_cases hlt : k < s.size
      · have hsk := hsm.out k hlt
        have hokk := hok.out k hlt
        have e46 : (((s[k]'hlt).toNat : Int) == 46) = ((s[k]'hlt) == 46) := beqI (n := 46) (by decide)
        have hkl : (k : Int) < s.size := by omega
        clear hok
        cases hc : sml (s[k]'hlt) with
        | true =>
          have hc' : smI ((s[k]'hlt).toNat : Int) = true := hc
          have hd : dgt (s[k]'hlt) = false := by have hr := smI_rng hc'; exact dgI_no (by omega)
          have hd' : dgI ((s[k]'hlt).toNat : Int) = false := hd
          have hp' := hd'
          have ha2 : Hid ((List.range (k + 1)).all okf = true) := hrs.out k ha.out (by rw [hokk, hc, hd]; rfl)
          have hm2 : Hid (m + 1 = ((s.data.toList.take (k + 1)).filter sml).length) := by show _ = _; rw [hsk, hc, ← hm.out]; rfl
          clear hsk hpv e46
          clear hno hfin hsm hrs ha hm hokk hc hd
          go_wp2_with (first | (go_at_call 42; refine (rsmall_any _ wr).mono ?_; rintro e w' ⟨rfl, hww⟩; subst w'; rw [hc']) | (go_at_call 53; refine (rdigit_any _ wr).mono ?_; rintro e w' ⟨rfl, hww⟩; subst w'; first | rw [hd'] | rw [hp']))
          go_roundw
          case rel => exact ⟨k + 1, m + 1, by omega, by omega, by simp, by simp, by first | rfl | trivial, ha2, hm2⟩
          case measure => simp [intOf]; omega
        | false =>
          have hc' : smI ((s[k]'hlt).toNat : Int) = false := hc
          have hm2 : Hid (m = ((s.data.toList.take (k + 1)).filter sml).length) := by show _ = _; rw [hsk, hc, ← hm.out]; rfl
          rw [hc, Bool.false_or] at hokk
          clear hsk
          cases hd : dgt (s[k]'hlt) with
          | false =>
            have hd' : dgI ((s[k]'hlt).toNat : Int) = false := hd
            have hp' := hd'
            rw [hd, Bool.false_or, Bool.false_and, Bool.not_false, Bool.and_true] at hokk
            cases h46 : ((s[k]'hlt) == 46) with
            | false =>
              rw [h46] at e46
              have hr := hno.out k hlt (by rw [hokk]; rw [h46]; rfl)
              subst hr
              clear hm2 hpv h46
              clear hno hfin hsm hrs ha hm hokk hc hd
              go_wp2_with (first | (go_at_call 42; refine (rsmall_any _ wr).mono ?_; rintro e w' ⟨rfl, hww⟩; subst w'; rw [hc']) | (go_at_call 53; refine (rdigit_any _ wr).mono ?_; rintro e w' ⟨rfl, hww⟩; subst w'; first | rw [hd'] | rw [hp']))
              go_ret
              exact ⟨rfl, rfl⟩
            | true =>
              rw [h46] at e46
              rw [h46, Bool.true_and] at hokk
              clear h46
              by_cases h0 : k = 0
              · have f0 : ((k : Int) == 0) = true := by first | (rw [beq_iff_eq]; omega) | (rw [beq_eq_false_iff_ne]; omega)
                have ha2 : Hid ((List.range (k + 1)).all okf = true) := hrs.out k ha.out (by rw [hokk]; rw [decide_eq_true h0]; rfl)
                have h0h : Hid (k = 0) := h0
                clear hpv h0
                clear hno hfin hsm hrs ha hm hokk hc hd
                go_wp2_with (first | (go_at_call 42; refine (rsmall_any _ wr).mono ?_; rintro e w' ⟨rfl, hww⟩; subst w'; rw [hc']) | (go_at_call 53; refine (rdigit_any _ wr).mono ?_; rintro e w' ⟨rfl, hww⟩; subst w'; first | rw [hd'] | rw [hp']))
                go_roundw
                case rel => exact ⟨k + 1, m, by omega, by omega, by simp, rfl, by first | rfl | trivial, ha2, hm2⟩
                case measure => simp [intOf]; omega
              · have f0 : ((k : Int) == 0) = false := by first | (rw [beq_iff_eq]; omega) | (rw [beq_eq_false_iff_ne]; omega)
                by_cases hl : k = s.size - 1
                · have f1 : ((k : Int) == (s.size : Int) - 1) = true := by first | (rw [beq_iff_eq]; omega) | (rw [beq_eq_false_iff_ne]; omega)
                  have ha2 : Hid ((List.range (k + 1)).all okf = true) := hrs.out k ha.out (by rw [hokk]; rw [decide_eq_true hl]; simp)
                  have hlh : Hid (k = s.size - 1 ∧ ¬ k = 0) := ⟨hl, h0⟩
                  clear hpv h0 hl
                  clear hno hfin hsm hrs ha hm hokk hc hd
                  go_wp2_with (first | (go_at_call 42; refine (rsmall_any _ wr).mono ?_; rintro e w' ⟨rfl, hww⟩; subst w'; rw [hc']) | (go_at_call 53; refine (rdigit_any _ wr).mono ?_; rintro e w' ⟨rfl, hww⟩; subst w'; first | rw [hd'] | rw [hp']))
                  go_roundw
                  case rel => exact ⟨k + 1, m, by omega, by omega, by simp, rfl, by first | rfl | trivial, ha2, hm2⟩
                  case measure => simp [intOf]; omega
                · have f1 : ((k : Int) == (s.size : Int) - 1) = false := by first | (rw [beq_iff_eq]; omega) | (rw [beq_eq_false_iff_ne]; omega)
                  have hr := hno.out k hlt (by rw [hokk]; rw [decide_eq_false hl, decide_eq_false h0]; rfl)
                  subst hr
                  clear hm2 hpv hl h0
                  clear hno hfin hsm hrs ha hm hokk hc hd
                  go_wp2_with (first | (go_at_call 42; refine (rsmall_any _ wr).mono ?_; rintro e w' ⟨rfl, hww⟩; subst w'; rw [hc']) | (go_at_call 53; refine (rdigit_any _ wr).mono ?_; rintro e w' ⟨rfl, hww⟩; subst w'; first | rw [hd'] | rw [hp']))
                  go_ret
                  exact ⟨rfl, rfl⟩
          | true =>
            have hd' : dgI ((s[k]'hlt).toNat : Int) = true := hd
            rw [hd, Bool.true_or, Bool.true_and, Bool.true_and] at hokk
            by_cases h0 : k = 0
            · have hp' := hd'
              have f3 : ¬ (0 : Int) < k := by omega
              have f0 : ((k : Int) == 0) = true := by first | (rw [beq_iff_eq]; omega) | (rw [beq_eq_false_iff_ne]; omega)
              rw [decide_eq_false (p := 0 < k) (by omega), decide_eq_true h0, Bool.false_and, Bool.false_and, Bool.and_false, Bool.true_and, Bool.false_or, Bool.false_or] at hokk
              by_cases h1 : 1 < s.size
              · have f4 : (1 : Int) < s.size := by omega
                have e1 : (((s[1]'h1).toNat : Int) == 46) = ((s[1]'h1) == 46) := beqI (n := 46) (by decide)
                have f1 : ((k : Int) == (s.size : Int) - 1) = false := by first | (rw [beq_iff_eq]; omega) | (rw [beq_eq_false_iff_ne]; omega)
                rw [decide_eq_true h1, Bool.true_and, hpv.out 1 h1] at hokk
                have h0h : Hid (k = 0) := h0
                clear h0
                cases h46 : ((s[1]'h1) == 46) with
                | true =>
                  rw [h46] at e1
                  have hr := hno.out k hlt (by rw [hokk]; rw [h46]; rfl)
                  subst hr
                  clear hm2 hpv h46 e46
                  clear hno hfin hsm hrs ha hm hokk hc hd
                  go_wp2_with (first | (go_at_call 42; refine (rsmall_any _ wr).mono ?_; rintro e w' ⟨rfl, hww⟩; subst w'; rw [hc']) | (go_at_call 53; refine (rdigit_any _ wr).mono ?_; rintro e w' ⟨rfl, hww⟩; subst w'; first | rw [hd'] | rw [hp']))
                  go_ret
                  exact ⟨rfl, rfl⟩
                | false =>
                  rw [h46] at e1
                  have ha2 : Hid ((List.range (k + 1)).all okf = true) := hrs.out k ha.out (by rw [hokk]; rw [h46]; rfl)
                  clear hpv h46 e46
                  clear hno hfin hsm hrs ha hm hokk hc hd
                  go_wp2_with (first | (go_at_call 42; refine (rsmall_any _ wr).mono ?_; rintro e w' ⟨rfl, hww⟩; subst w'; rw [hc']) | (go_at_call 53; refine (rdigit_any _ wr).mono ?_; rintro e w' ⟨rfl, hww⟩; subst w'; first | rw [hd'] | rw [hp']))
                  go_roundw
                  case rel => exact ⟨k + 1, m, by omega, by omega, by simp, rfl, by first | rfl | trivial, ha2, hm2⟩
                  case measure => simp [intOf]; omega
              · have f4 : ¬ (1 : Int) < s.size := by omega
                have f1 : ((k : Int) == (s.size : Int) - 1) = true := by first | (rw [beq_iff_eq]; omega) | (rw [beq_eq_false_iff_ne]; omega)
                have h0h : Hid (k = 0) := h0
                have ha2 : Hid ((List.range (k + 1)).all okf = true) := hrs.out k ha.out (by rw [hokk]; rw [decide_eq_false h1]; rfl)
                clear hpv h0 e46
                clear hno hfin hsm hrs ha hm hokk hc hd
                go_wp2_with (first | (go_at_call 42; refine (rsmall_any _ wr).mono ?_; rintro e w' ⟨rfl, hww⟩; subst w'; rw [hc']) | (go_at_call 53; refine (rdigit_any _ wr).mono ?_; rintro e w' ⟨rfl, hww⟩; subst w'; first | rw [hd'] | rw [hp']))
                go_roundw
                case rel => exact ⟨k + 1, m, by omega, by omega, by simp, rfl, by first | rfl | trivial, ha2, hm2⟩
                case measure => simp [intOf]; omega
            · obtain ⟨j, hj⟩ : ∃ j, k - 1 = j := ⟨_, rfl⟩
              have hjk : (k : Int) - 1 = j := by omega
              have hjl : j < s.size := by omega
              have f3 : (0 : Int) < k := by omega
              have e1 : (((s[j]'hjl).toNat : Int) == 46) = ((s[j]'hjl) == 46) := beqI (n := 46) (by decide)
              have f0 : ((k : Int) == 0) = false := by first | (rw [beq_iff_eq]; omega) | (rw [beq_eq_false_iff_ne]; omega)
              have hjH : Hid (k - 1 = j ∧ ¬ k = 0) := ⟨hj, h0⟩
              rw [decide_eq_true (by omega : 0 < k), decide_eq_false h0, Bool.true_and, Bool.true_and, Bool.false_and, Bool.or_false, hj, hpv.out j hjl] at hokk
              clear h0 hj e46
              cases hp : dgt (s[j]'hjl) with
              | true =>
                have hp' : dgI ((s[j]'hjl).toNat : Int) = true := hp
                have hr := hno.out k hlt (by rw [hokk]; rw [hp]; rfl)
                subst hr
                clear hm2 hpv hp e1
                clear hno hfin hsm hrs ha hm hokk hc hd
                go_wp2_with (first | (go_at_call 42; refine (rsmall_any _ wr).mono ?_; rintro e w' ⟨rfl, hww⟩; subst w'; rw [hc']) | (go_at_call 53; refine (rdigit_any _ wr).mono ?_; rintro e w' ⟨rfl, hww⟩; subst w'; first | rw [hd'] | rw [hp']))
                go_ret
                exact ⟨rfl, rfl⟩
              | false =>
                have hp' : dgI ((s[j]'hjl).toNat : Int) = false := hp
                rw [hp, Bool.false_or] at hokk
                by_cases hl : k = s.size - 1
                · have f1 : ((k : Int) == (s.size : Int) - 1) = true := by first | (rw [beq_iff_eq]; omega) | (rw [beq_eq_false_iff_ne]; omega)
                  rw [decide_eq_true hl, Bool.true_and] at hokk
                  have hlh : Hid (k = s.size - 1) := hl
                  clear hl
                  cases h46 : ((s[j]'hjl) == 46) with
                  | true =>
                    rw [h46] at e1
                    have hr := hno.out k hlt (by rw [hokk]; rw [h46]; rfl)
                    subst hr
                    clear hm2 hpv h46 hp
                    clear hno hfin hsm hrs ha hm hokk hc hd
                    go_wp2_with (first | (go_at_call 42; refine (rsmall_any _ wr).mono ?_; rintro e w' ⟨rfl, hww⟩; subst w'; rw [hc']) | (go_at_call 53; refine (rdigit_any _ wr).mono ?_; rintro e w' ⟨rfl, hww⟩; subst w'; first | rw [hd'] | rw [hp']))
                    go_ret
                    exact ⟨rfl, rfl⟩
                  | false =>
                    rw [h46] at e1
                    have ha2 : Hid ((List.range (k + 1)).all okf = true) := hrs.out k ha.out (by rw [hokk]; rw [h46]; rfl)
                    clear hpv h46 hp
                    clear hno hfin hsm hrs ha hm hokk hc hd
                    go_wp2_with (first | (go_at_call 42; refine (rsmall_any _ wr).mono ?_; rintro e w' ⟨rfl, hww⟩; subst w'; rw [hc']) | (go_at_call 53; refine (rdigit_any _ wr).mono ?_; rintro e w' ⟨rfl, hww⟩; subst w'; first | rw [hd'] | rw [hp']))
                    go_roundw
                    case rel => exact ⟨k + 1, m, by omega, by omega, by simp, rfl, by first | rfl | trivial, ha2, hm2⟩
                    case measure => simp [intOf]; omega
                · have f1 : ((k : Int) == (s.size : Int) - 1) = false := by first | (rw [beq_iff_eq]; omega) | (rw [beq_eq_false_iff_ne]; omega)
                  have ha2 : Hid ((List.range (k + 1)).all okf = true) := hrs.out k ha.out (by rw [hokk]; rw [decide_eq_false hl]; rfl)
                  clear hpv hp hl e1
                  clear hno hfin hsm hrs ha hm hokk hc hd
                  go_wp2_with (first | (go_at_call 42; refine (rsmall_any _ wr).mono ?_; rintro e w' ⟨rfl, hww⟩; subst w'; rw [hc']) | (go_at_call 53; refine (rdigit_any _ wr).mono ?_; rintro e w' ⟨rfl, hww⟩; subst w'; first | rw [hd'] | rw [hp']))
                  go_roundw
                  case rel => exact ⟨k + 1, m, by omega, by omega, by simp, rfl, by first | rfl | trivial, ha2, hm2⟩
                  case measure => simp [intOf]; omega
      · obtain rfl : k = s.size := by omega
        have hr := hfin.out m ha.out hm.out
        clear hno hfin hsm hok hpv hrs ha hm hsz
        go_wp2_with fail
        go_ret
        refine ⟨?_, rfl⟩
        rw [hr]
        show Ending.returned (Value.bool _) = _
        congr 2
end Go.Proofs.YtfblhpkndfbhgaaDoor
