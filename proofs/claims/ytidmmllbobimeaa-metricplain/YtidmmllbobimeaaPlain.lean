/-
  What is proved here: a text of visible bytes and blanks without accents is as wide as its bytes.
-/
import Derived.Test.YtidmmllbobimeaaKnown
namespace Go.Proofs.Ytidmmllbobimeaa
open Go.RowKit Go.Shelf

def PlainT (t : ByteArray) : Prop := ∀ k, k < t.size → (32 ≤ bt t k ∧ bt t k ≤ 126) ∧ bt t k ≠ 94 ∧ bt t k ≠ 126 ∧ bt t k ≠ 96
theorem kind_vis {x : Int} (h : 32 ≤ x ∧ x ≤ 126) : kindI x = 1 ∨ kindI x = 2 ∨ kindI x = 3 := by
  unfold kindI
  repeat (split <;> try omega)
theorem plain_acc {t : ByteArray} (h : PlainT t) (k : Nat) : accB (bt t k) = false := by
  by_cases hk : k < t.size
  · have := h k hk
    exact decide_eq_false (by omega)
  · rw [bt_no hk]; decide
theorem plain_end {t : ByteArray} (h : PlainT t) (k : Nat) : endN t k = k + 1 := by
  unfold endN
  split
  · rw [if_neg (by rw [plain_acc h]; simp)]
  · rfl
theorem plain_st {t : ByteArray} (h : PlainT t) : ∀ i, i ≤ t.size → st t i = i
  | 0, _ => rfl
  | i + 1, hi => by
    have ih := plain_st h i (by omega)
    rw [st_succ (by omega), ih, plain_end h]
theorem plain_num {t : ByteArray} (h : PlainT t) : num t = t.size := by
  have h1 := num_le t
  have h2 := num_end t
  rw [plain_st h _ h1] at h2
  exact h2
theorem plain_wrong {t : ByteArray} (h : PlainT t) (hs : t.size ≤ 4096) : wrongI t = 0 := wrong_ok (by omega) (fun k hk => by
  rcases kind_vis (h k hk).1 with e | e | e <;> rw [e] <;> decide)
theorem plain_ref {t : ByteArray} (h : PlainT t) : ∀ k, k ≤ t.size → refN t k = 0
  | 0, _ => rfl
  | k + 1, hk => by
    rw [refN_succ, plain_ref h k (by omega), if_neg (by have := (h k (by omega)).1; omega)]
def plnP (t : ByteArray) (s : Int) (N : Nat) : Pa := { t := t, sv := .slice (some ⟨N, 0, none⟩) 1 1, p := plainP s, lb := { data := #[] }, mv := .slice none 0 0, sp := [⟨t.size, 0, 0, 0⟩], ms := [] }
theorem pln_keep {s : Int} (h : 1 ≤ s ∧ s ≤ 64) : keepB (prB (plainP s)) = true := by
  simp [keepB, prB, plainP, bdB, h]
theorem pln_chk {t : ByteArray} (h : PlainT t) {s : Int} (hs : 1 ≤ s ∧ s ≤ 64) (hn : t.size ≤ 4096) (h1 : 1 ≤ t.size) (N : Nat) : chkI (plnP t s N) = 0 := by
  have e1 : wrongI (plnP t s N).t = 0 := plain_wrong h hn
  have e2 : fieldB (plnP t s N).t = false := decide_eq_false (fun ⟨k, hk, e⟩ => by have := (h k hk).1; have e' : bt t k = 3 := e; omega)
  have e3 : spB (plnP t s N).sp (plnP t s N).t.size = true := by
    show spB [⟨t.size, 0, 0, 0⟩] t.size = true
    unfold spB
    rw [if_pos ⟨by show 1 ≤ (t.size : Int); omega, Int.le_refl _, by simp [chB]⟩]
    simp [spB]
  have e4 : keepB (prB (plnP t s N).p) = true := pln_keep hs
  have e5 : standB (plnP t s N).lb 0 16 = true := by show standB { data := #[] } 0 16 = true; decide
  have e6 : markB (plnP t s N).t (plnP t s N).ms = true := by
    show markB t [] = true
    unfold markB
    rw [plain_ref h _ (Nat.le_refl _)]; rfl
  unfold chkI restB
  rw [if_pos e1, e2, e3, e4, e5, e6]; rfl
theorem pln_sp (t : ByteArray) (s : Int) (N k : Nat) (hk : k < t.size) : spAt (plnP t s N).sp k = ⟨t.size, 0, 0, 0⟩ := by
  show spAt [⟨t.size, 0, 0, 0⟩] k = _
  unfold spAt lkI
  rw [if_pos (by show (k : Int) < (t.size : Int); omega)]; rfl
theorem pln_ms {t : ByteArray} (h : PlainT t) (s : Int) (N : Nat) {k : Nat} (hk : k < t.size) : (msI (plnP t s N) k).w = bw (bt t k) s ∧ (msI (plnP t s N) k).q = 0 := by
  have e0 : st (plnP t s N).t k = k := plain_st h k (by omega)
  have e1 : fc (plnP t s N) k = ⟨kindI (bt t k), bt t k, s, 0, 0⟩ := by
    unfold fc szAt
    rw [e0, pln_sp t s N k hk]
    rfl
  unfold msI
  refine ⟨?_, ?_⟩
  · show wdI (fc (plnP t s N) k) _ = _
    rw [e1]
    unfold wdI
    rw [if_pos (kind_vis (h k hk).1)]
    exact Int.add_zero _
  · show meetI _ (fc (plnP t s N) k) = 0
    rw [e1]
    unfold meetI
    rw [if_neg (fun hc => by have := hc.2.1; simp [kerB] at this)]
theorem pln_run {t : ByteArray} (h : PlainT t) (s : Int) (N : Nat) : ∀ k, k ≤ t.size → runN (mss (plnP t s N)) 0 k = tw t s k
  | 0, _ => rfl
  | k + 1, hk => by
    have hl : 0 + k < (mss (plnP t s N)).length := by rw [mss_len]; show 0 + k < num t; rw [plain_num h]; omega
    have hm := pln_ms h s N (show k < t.size by omega)
    show runN _ 0 k + _ + _ = tw t s k + bw (bt t k) s
    rw [pln_run h s N k (by omega), getD_is hl, mss_get, show 0 + k = k by omega, hm.1, hm.2]
    split <;> omega
theorem pln_nat {t : ByteArray} (h : PlainT t) {s : Int} (hs : 1 ≤ s ∧ s ≤ 64) (hn : t.size ≤ 4096) (N : Nat) : natE (mss (plnP t s N)) 0 t.size = 0 ∧ natV (mss (plnP t s N)) 0 t.size = widthI t s := by
  have hl : (mss (plnP t s N)).length = t.size := by rw [mss_len]; exact plain_num h
  have hall : (mss (plnP t s N)).all mOk = true := all_yes (fun k hk => by
    rw [mss_get]
    have hm := pln_ms h s N (show k < t.size by omega)
    have hb := bw_rng (bt t k) (show 0 ≤ s by omega) hs.2
    unfold mOk
    rw [hm.1, hm.2]
    exact decide_eq_true (by omega))
  have e : natE (mss (plnP t s N)) 0 t.size = 0 := by
    unfold natE
    rw [if_neg (by omega), if_pos hall, if_pos (by omega)]
  refine ⟨e, ?_⟩
  unfold natV
  rw [if_pos e]
  show runN _ 0 (t.size - 0) = tw t s t.size
  exact pln_run h s N t.size (Nat.le_refl _)

set_option maxRecDepth 100000 in
set_option maxHeartbeats 2000000 in
theorem plnMass {t : ByteArray} (h : PlainT t) {s : Int} (hs : 1 ≤ s ∧ s ≤ 64) (hn : t.size ≤ 4096) (h1 : 1 ≤ t.size) (N : Nat) (w : World) (hA : PaAt w (plnP t s N)) : Calls Try.prog 17 #[paV (plnP t s N)] w fun e w' => ∃ v, e = .returned (.tuple #[v, .int .i64 0]) ∧ RecAt 6 msL w' v (mss (plnP t s N)) ∧ Below w.heap.size w w' := by
  refine (masses_any _ w hA).mono ?_
  rintro e w' ⟨⟨v, rfl, hv⟩, hb⟩
  rw [pln_chk h hs hn h1] at hv ⊢
  rcases hv with ⟨h, _⟩ | ⟨_, h⟩
  · exact absurd rfl h
  · exact ⟨v, rfl, rec_of_row msL_len (mss_len _).symm h, hb⟩

set_option maxRecDepth 100000 in
set_option maxHeartbeats 4000000 in
theorem plainWalk (t : ByteArray) (s : Int) (w : World) : Calls Try.prog 8 #[.string t, .int .i64 s] w fun e w' => e = .returned (.bool true) ∧ Below w.heap.size w w' := by
  have hW := Width_any t s
  rcases wErr_cases t s with ⟨e1, e2, _⟩ | ⟨e1, e2, _⟩ | ⟨e1, e2, h1, h2, h3⟩
  · rw [e1, e2] at hW
    clear e1 e2
    go_enter Try.func8, Try.ntmps8
    go_wp2_with fail
    refine (known_any w).mono ?_
    rintro e w1 ⟨rfl, B1⟩
    go_wp2_with fail
    refine (hW _).mono ?_
    rintro e w' ⟨rfl, hww⟩
    subst w'
    go_wp2_with fail
    go_ret
    exact ⟨rfl, B1⟩
  · rw [e1, e2] at hW
    clear e1 e2
    go_enter Try.func8, Try.ntmps8
    go_wp2_with fail
    refine (known_any w).mono ?_
    rintro e w1 ⟨rfl, B1⟩
    go_wp2_with fail
    refine (hW _).mono ?_
    rintro e w' ⟨rfl, hww⟩
    subst w'
    go_wp2_with fail
    go_ret
    exact ⟨rfl, B1⟩
  · rw [e1, e2] at hW
    clear e1 e2
    by_cases h0 : t.size = 0
    · have h0' : ((t.size : Int) == 0) = true := beq_iff_eq.2 (by omega)
      clear h0
      go_enter Try.func8, Try.ntmps8
      go_wp2_with fail
      refine (known_any w).mono ?_
      rintro e w1 ⟨rfl, B1⟩
      go_wp2_with fail
      refine (hW _).mono ?_
      rintro e w' ⟨rfl, hww⟩
      subst w'
      go_wp2_with fail
      go_ret
      exact ⟨rfl, B1⟩
    · have h0' : ((t.size : Int) == 0) = false := beq_eq_false_iff_ne.2 (by omega)
      have h01 : Hid (1 ≤ t.size) := by show 1 ≤ t.size; omega
      clear h0
      go_enter Try.func8, Try.ntmps8
      go_wp2_with fail
      refine (known_any w).mono ?_
      rintro e w1 ⟨rfl, B1⟩
      go_wp2_with fail
      refine (hW _).mono ?_
      rintro e w' ⟨rfl, hww⟩
      subst w'
      go_wp2_with fail
      go_loopw [8] (fun i wr => ∃ k : Nat, k ≤ t.size ∧ i = .int .i64 k ∧ wr = w1 ∧ Hid (∀ j, j < k → (32 ≤ bt t j ∧ bt t j ≤ 126) ∧ bt t j ≠ 94 ∧ bt t j ≠ 126 ∧ bt t j ≠ 96)) (fun i _ => t.size - (intOf i).toNat)
      case atStart => exact ⟨0, by omega, rfl, rfl, fun j hj => by omega⟩
      case round =>
        obtain ⟨k, hk, rfl, rfl, hall⟩ := hrel
        by_cases hlt : k < t.size
        · have hb0 : Hid (bt t k = ((t[k]'hlt).toNat : Int)) := bt_eq hlt
          have hyes : Hid ((32 ≤ bt t k ∧ bt t k ≤ 126) ∧ bt t k ≠ 94 ∧ bt t k ≠ 126 ∧ bt t k ≠ 96 → ∀ j, j < k + 1 → (32 ≤ bt t j ∧ bt t j ≤ 126) ∧ bt t j ≠ 94 ∧ bt t j ≠ 126 ∧ bt t j ≠ 96) := fun hv j hj => by
            by_cases h : j < k
            · exact hall.out j h
            · obtain rfl : j = k := by omega
              exact hv
          clear hall hW
          by_cases d0 : ((t[k]'hlt).toNat : Int) < 32
          · skip
            clear hyes hb0
            go_wp2_with fail
            go_ret
            exact ⟨rfl, B1⟩
          · skip
            by_cases d1 : 126 < ((t[k]'hlt).toNat : Int)
            · skip
              clear hyes hb0
              go_wp2_with fail
              go_ret
              exact ⟨rfl, B1⟩
            · skip
              cases d2 : (((t[k]'hlt).toNat : Int) == 94)
              · skip
                cases d3 : (((t[k]'hlt).toNat : Int) == 126)
                · skip
                  cases d4 : (((t[k]'hlt).toNat : Int) == 96)
                  · skip
                    have hy : Hid (∀ j, j < k + 1 → (32 ≤ bt t j ∧ bt t j ≤ 126) ∧ bt t j ≠ 94 ∧ bt t j ≠ 126 ∧ bt t j ≠ 96) := hyes.out (by rw [hb0.out]; simp only [beq_eq_false_iff_ne, ne_eq] at d2 d3 d4; omega)
                    clear hyes hb0
                    go_wp2_with fail
                    go_roundw
                    case rel => exact ⟨k + 1, by omega, by simp, by first | rfl | trivial, hy⟩
                    case measure => simp [intOf]; omega
                  · skip
                    clear hyes hb0
                    go_wp2_with fail
                    go_ret
                    exact ⟨rfl, B1⟩
                · skip
                  clear hyes hb0
                  go_wp2_with fail
                  go_ret
                  exact ⟨rfl, B1⟩
              · skip
                clear hyes hb0
                go_wp2_with fail
                go_ret
                exact ⟨rfl, B1⟩
        · obtain rfl : k = t.size := by omega
          have hP : PlainT t := fun j hj => hall.out j hj
          have hge : ¬ ((t.size : Int) < t.size) := by omega
          have hpl : ∀ W : World, Calls Try.prog 26 #[.int .i64 s] W fun e w' => e = .returned (.agg #[.int .i64 s, .int .i64 12, .int .i64 0, .int .i64 0, .int .i64 0, .int .i64 0, .int .i64 0, .int .i64 0, .int .i64 0, .int .i64 0, .int .i64 1, .int .i64 1, .int .i64 0, .int .i64 0, .int .i64 0, .int .i64 0, .int .i64 0]) ∧ Below W.heap.size W w' := plain_any s
          obtain ⟨n1, n2⟩ := pln_nat hP ⟨h1, h2⟩ h3 wr.heap.size
          have hM := fun W hA => plnMass hP ⟨h1, h2⟩ h3 h01.out wr.heap.size W hA
          have hln : (mss (plnP t s wr.heap.size)).length ≤ 9223372036854775807 := by rw [mss_len]; show num t ≤ _; rw [plain_num hP]; omega
          clear hall hP hW
          go_wp2_with fail
          refine (hpl _).mono ?_
          rintro e w6 ⟨rfl, b6⟩
          have b5' := (Below.refl wr.heap.size wr).alloc (Nat.le_refl _) (.cells #[.int .i64 (t.size : Nat), .int .i64 0, .int .i64 0, .int .i64 0] 51)
          have hr := rec_new (k := 4) spL_len wr 51 [⟨t.size, 0, 0, 0⟩]
          have hA6 : PaAt w6 (plnP t s wr.heap.size) := ⟨hr.below b6 (Nat.le_refl _), ⟨⟨none, 0, rfl, .inl rfl⟩, fun a n c e => by cases e; exact Nat.le_refl _⟩, by show 1 ≤ _ ∧ 0 ≤ _; omega⟩
          have B6 := (B1.trans (b5'.mono B1.size)).trans (b6.mono (B1.trans (b5'.mono B1.size)).size)
          go_wp2_with fail
          refine (hM w6 hA6).mono ?_
          rintro e w7 ⟨v, rfl, hR, b7⟩
          have B7 := B6.trans (b7.mono B6.size)
          have hN := natural_any v _ hln 0 t.size w7 hR
          rw [n1, n2] at hN
          clear hA6 hr hM n1 n2 hln
          go_wp2_with fail
          refine hN.mono ?_
          rintro e w8 ⟨rfl, b8⟩
          have B8 := B7.trans (b8.mono B7.size)
          clear hN hR
          go_wp2_with fail
          go_ret
          exact ⟨rfl, B8⟩
end Go.Proofs.Ytidmmllbobimeaa
