/-
  What is proved here: which stops may be, as the document's Check tells it.
-/
import Derived.Test.YtbnpplihiolpiaaTabA
import Derived.BigQuiet
namespace Go.Proofs.Ytbnpplihiolpiaa
open Go.RowKit Go.Shelf

set_option maxRecDepth 100000 in
set_option maxHeartbeats 4000000 in
theorem rcheck_any (v : Value) (l : List St) (hl : l.length ≤ 9223372036854775807) (w : World) (hS : RecAt 2 stL w v l) :
    Calls Try.prog 11 #[v] w fun e w' => e = .returned (.int .i64 (ckI l)) ∧ Below w.heap.size w w' := by
  obtain ⟨a, cap, rfl, h2⟩ := hS.ex
  clear hS
  by_cases h16 : 16 < l.length
  · rw [ok_long h16]
    have h16' : (16 : Int) < l.length := by omega
    clear h2
    go_enter Try.func11, Try.ntmps11
    go_wp2
    go_ret
    exact ⟨rfl, Below.refl _ _⟩
  have hY : Hid (∀ k (hk : k < l.length), goodB (pv l k) l[k] = false → ckI l = 2) := fun k hk e => ok_bad k hk e
  have hN : Hid ((∀ k (hk : k < l.length), goodB (pv l k) l[k] = true) → ckI l = 0) := fun h => ok_yes (by omega) h
  have hp0 : Hid ((0 : Int) = pv l 0) := rfl
  have h16' : ¬ (16 : Int) < l.length := by omega
  generalize ckI l = r at hY hN ⊢
  go_enter Try.func11, Try.ntmps11
  go_wp2_with fail
  go_loopw [3] (fun i wr => ∃ (k : Nat) (p : Int), k ≤ l.length ∧ i = .int .i64 k ∧ Below w.heap.size w wr ∧ Hid (p = pv l k ∧ 0 ≤ p) ∧ Hid (∀ j (hj : j < l.length), j < k → goodB (pv l j) l[j] = true)) (fun i _ => l.length - (intOf i).toNat)
  case atStart => exact ⟨0, 0, by omega, rfl, Below.refl _ _, ⟨hp0.out, Int.le_refl _⟩, fun j _ hj => by omega⟩
  case round =>
    obtain ⟨k, p, hk, rfl, hb, hp, hall⟩ := hrel
    by_cases hlt : k < l.length
    · rcases h2 with h2 | ⟨b, o, rfl, hbl, hc⟩
      · rw [h2] at hlt; simp at hlt
      · have c0 : wr.cell? ⟨b, o + k * 2, none⟩ = some (.int .i64 l[k].a) := (hb.cell hbl).trans (hc k hlt 0 _ rfl)
        have c1 : wr.cell? ⟨b, o + k * 2 + 1, none⟩ = some (.int .i64 l[k].k) := (hb.cell hbl).trans (hc k hlt 1 _ rfl)
        have hlt' : (k : Int) < l.length := by omega
        have hyes : Hid (goodB p l[k] = true → ∀ j (hj : j < l.length), j < k + 1 → goodB (pv l j) l[j] = true) := fun hv j hj hjk => by
            by_cases h : j < k
            · exact hall.out j hj h
            · obtain rfl : j = k := by omega
              rw [← hp.out.1]; exact hv
        have hno : Hid (goodB p l[k] = false → r = 2) := fun h => hY.out k hlt (by rw [← hp.out.1]; exact h)
        have hgd : Hid (goodB p l[k] = decide (p < l[k].a ∧ l[k].a ≤ 4095 ∧ (l[k].k = 0 ∨ l[k].k = 2 ∨ l[k].k = 3))) := rfl
        have hp1 : Hid (l[k].a = pv l (k + 1)) := (pv_succ l k hlt).symm
        have hpp : Hid (0 ≤ p) := hp.out.2
        have hx : (k = 0 ∧ p = 0) ∨ ∃ j : Nat, k = j + 1 ∧ wr.cell? ⟨b, o + j * 2, none⟩ = some (.int .i64 p) := by
          rcases Nat.eq_zero_or_pos k with h | h
          · refine .inl ⟨h, ?_⟩
            rw [hp.out.1, h]; rfl
          · refine .inr ⟨k - 1, by omega, ?_⟩
            have e : p = l[k - 1].a := by
              have := pv_succ l (k - 1) (by omega)
              rw [show k - 1 + 1 = k by omega] at this
              rw [hp.out.1, this]
            rw [e]
            exact (hb.cell hbl).trans (hc (k - 1) (by omega) 0 _ rfl)
        clear hY hN hall hc hp hp0
        generalize l[k].a = x0 at *
        generalize l[k].k = x1 at *
        by_cases d1 : x0 < 1
        · have hn := hno.out (hgd.out.trans (decide_eq_false (by have := hpp.out; omega)))
          subst hn
          clear hyes hno hgd hp1 hx
          go_wp2_with fail
          have g1 : decide (x0 < 1) = true := decide_eq_true d1
          go_quiet (fail)
          go_wp2_with fail
          go_ret
          exact ⟨rfl, below_drewN hb _⟩
        by_cases d2 : 4095 < x0
        · have hn := hno.out (hgd.out.trans (decide_eq_false (by have := hpp.out; omega)))
          subst hn
          clear hyes hno hgd hp1 hx
          go_wp2_with fail
          have g1 : decide (x0 < 1) = false := decide_eq_false (by omega)
          have g2 : decide (4095 < x0) = true := decide_eq_true d2
          go_quiet (fail)
          go_wp2_with fail
          go_ret
          exact ⟨rfl, below_drewN hb _⟩
        have hx0 : Hid (1 ≤ x0 ∧ x0 ≤ 4095) := ⟨by omega, by omega⟩
        rcases hx with ⟨hk0, hpz⟩ | ⟨j, hk0, dj⟩
        · have hk0' : Hid _ := hk0
          clear hk0 d1 d2
          subst hpz
          by_cases q0 : x1 = 0
          · have hy : Hid (∀ j (hj : j < l.length), j < k + 1 → goodB (pv l j) l[j] = true) := hyes.out (hgd.out.trans (decide_eq_true (by have := hx0.out; omega)))
            clear hyes hno hgd
            subst q0
            go_wp2_with fail
            have g1 : decide (x0 < 1) = false := decide_eq_false (by have := hx0.out; omega)
            have g2 : decide (4095 < x0) = false := decide_eq_false (by have := hx0.out; omega)
            have g3 : decide ((0 : Int) < (k : Int)) = false := by have := hk0'.out; rw [decide_eq_false_iff_not]; omega
            have g4 : decide (0 < k) = false := by have := hk0'.out; rw [decide_eq_false_iff_not]; omega
            go_quiet (fail)
            go_wp2_with fail
            go_roundw
            case rel => exact ⟨k + 1, x0, by omega, by simp, below_drewN hb _, ⟨hp1.out, by have := hx0.out; omega⟩, hy⟩
            case measure => simp [intOf]; omega
          by_cases q2 : x1 = 2
          · have hy : Hid (∀ j (hj : j < l.length), j < k + 1 → goodB (pv l j) l[j] = true) := hyes.out (hgd.out.trans (decide_eq_true (by have := hx0.out; omega)))
            clear hyes hno hgd
            subst q2
            go_wp2_with fail
            have g1 : decide (x0 < 1) = false := decide_eq_false (by have := hx0.out; omega)
            have g2 : decide (4095 < x0) = false := decide_eq_false (by have := hx0.out; omega)
            have g3 : decide ((0 : Int) < (k : Int)) = false := by have := hk0'.out; rw [decide_eq_false_iff_not]; omega
            have g4 : decide (0 < k) = false := by have := hk0'.out; rw [decide_eq_false_iff_not]; omega
            go_quiet (fail)
            go_wp2_with fail
            go_roundw
            case rel => exact ⟨k + 1, x0, by omega, by simp, below_drewN hb _, ⟨hp1.out, by have := hx0.out; omega⟩, hy⟩
            case measure => simp [intOf]; omega
          by_cases q3 : x1 = 3
          · have hy : Hid (∀ j (hj : j < l.length), j < k + 1 → goodB (pv l j) l[j] = true) := hyes.out (hgd.out.trans (decide_eq_true (by have := hx0.out; omega)))
            clear hyes hno hgd
            subst q3
            go_wp2_with fail
            have g1 : decide (x0 < 1) = false := decide_eq_false (by have := hx0.out; omega)
            have g2 : decide (4095 < x0) = false := decide_eq_false (by have := hx0.out; omega)
            have g3 : decide ((0 : Int) < (k : Int)) = false := by have := hk0'.out; rw [decide_eq_false_iff_not]; omega
            have g4 : decide (0 < k) = false := by have := hk0'.out; rw [decide_eq_false_iff_not]; omega
            go_quiet (fail)
            go_wp2_with fail
            go_roundw
            case rel => exact ⟨k + 1, x0, by omega, by simp, below_drewN hb _, ⟨hp1.out, by have := hx0.out; omega⟩, hy⟩
            case measure => simp [intOf]; omega
          have hn := hno.out (hgd.out.trans (decide_eq_false (by omega)))
          subst hn
          clear hyes hno hgd hp1
          have e0 : (x1 != 0) = true := by simpa using q0
          have e2 : (x1 != 2) = true := by simpa using q2
          have e3 : (x1 != 3) = true := by simpa using q3
          have f0 : Hid _ := e0
          have f2 : Hid _ := e2
          have f3 : Hid _ := e3
          clear e0 e2 e3 q0 q2 q3
          go_wp2_with fail
          have g1 : decide (x0 < 1) = false := decide_eq_false (by have := hx0.out; omega)
          have g2 : decide (4095 < x0) = false := decide_eq_false (by have := hx0.out; omega)
          have g3 : decide ((0 : Int) < (k : Int)) = false := by have := hk0'.out; rw [decide_eq_false_iff_not]; omega
          have g4 : decide (0 < k) = false := by have := hk0'.out; rw [decide_eq_false_iff_not]; omega
          have e0 := f0.out
          have e2 := f2.out
          have e3 := f3.out
          go_quiet (fail)
          go_wp2_with fail
          go_ret
          exact ⟨rfl, below_drewN hb _⟩
        · have hk0' : Hid _ := hk0
          clear hk0 d1 d2
          by_cases d3 : x0 ≤ p
          · have hn := hno.out (hgd.out.trans (decide_eq_false (by omega)))
            subst hn
            clear hyes hno hgd hp1
            go_wp2_with fail
            have g1 : decide (x0 < 1) = false := decide_eq_false (by have := hx0.out; omega)
            have g2 : decide (4095 < x0) = false := decide_eq_false (by have := hx0.out; omega)
            have g3 : decide ((0 : Int) < (k : Int)) = true := by have := hk0'.out; rw [decide_eq_true_iff]; omega
            have g4 : decide (0 < k) = true := by have := hk0'.out; rw [decide_eq_true_iff]; omega
            have hsub : (k : Int) - 1 = (j : Int) := by have := hk0'.out; omega
            have g5 : decide (x0 ≤ p) = true := decide_eq_true d3
            go_quiet (fail)
            go_wp2_with fail
            go_ret
            exact ⟨rfl, below_drewN hb _⟩
          have d3' : Hid (p < x0) := by exact Int.not_le.1 d3
          clear d3
          by_cases q0 : x1 = 0
          · have hy : Hid (∀ j (hj : j < l.length), j < k + 1 → goodB (pv l j) l[j] = true) := hyes.out (hgd.out.trans (decide_eq_true (by have := hx0.out; have := d3'.out; omega)))
            clear hyes hno hgd
            subst q0
            go_wp2_with fail
            have g1 : decide (x0 < 1) = false := decide_eq_false (by have := hx0.out; omega)
            have g2 : decide (4095 < x0) = false := decide_eq_false (by have := hx0.out; omega)
            have g3 : decide ((0 : Int) < (k : Int)) = true := by have := hk0'.out; rw [decide_eq_true_iff]; omega
            have g4 : decide (0 < k) = true := by have := hk0'.out; rw [decide_eq_true_iff]; omega
            have hsub : (k : Int) - 1 = (j : Int) := by have := hk0'.out; omega
            have g5 : decide (x0 ≤ p) = false := decide_eq_false (by have := d3'.out; omega)
            go_quiet (fail)
            go_wp2_with fail
            go_roundw
            case rel => exact ⟨k + 1, x0, by omega, by simp, below_drewN hb _, ⟨hp1.out, by have := hx0.out; omega⟩, hy⟩
            case measure => simp [intOf]; omega
          by_cases q2 : x1 = 2
          · have hy : Hid (∀ j (hj : j < l.length), j < k + 1 → goodB (pv l j) l[j] = true) := hyes.out (hgd.out.trans (decide_eq_true (by have := hx0.out; have := d3'.out; omega)))
            clear hyes hno hgd
            subst q2
            go_wp2_with fail
            have g1 : decide (x0 < 1) = false := decide_eq_false (by have := hx0.out; omega)
            have g2 : decide (4095 < x0) = false := decide_eq_false (by have := hx0.out; omega)
            have g3 : decide ((0 : Int) < (k : Int)) = true := by have := hk0'.out; rw [decide_eq_true_iff]; omega
            have g4 : decide (0 < k) = true := by have := hk0'.out; rw [decide_eq_true_iff]; omega
            have hsub : (k : Int) - 1 = (j : Int) := by have := hk0'.out; omega
            have g5 : decide (x0 ≤ p) = false := decide_eq_false (by have := d3'.out; omega)
            go_quiet (fail)
            go_wp2_with fail
            go_roundw
            case rel => exact ⟨k + 1, x0, by omega, by simp, below_drewN hb _, ⟨hp1.out, by have := hx0.out; omega⟩, hy⟩
            case measure => simp [intOf]; omega
          by_cases q3 : x1 = 3
          · have hy : Hid (∀ j (hj : j < l.length), j < k + 1 → goodB (pv l j) l[j] = true) := hyes.out (hgd.out.trans (decide_eq_true (by have := hx0.out; have := d3'.out; omega)))
            clear hyes hno hgd
            subst q3
            go_wp2_with fail
            have g1 : decide (x0 < 1) = false := decide_eq_false (by have := hx0.out; omega)
            have g2 : decide (4095 < x0) = false := decide_eq_false (by have := hx0.out; omega)
            have g3 : decide ((0 : Int) < (k : Int)) = true := by have := hk0'.out; rw [decide_eq_true_iff]; omega
            have g4 : decide (0 < k) = true := by have := hk0'.out; rw [decide_eq_true_iff]; omega
            have hsub : (k : Int) - 1 = (j : Int) := by have := hk0'.out; omega
            have g5 : decide (x0 ≤ p) = false := decide_eq_false (by have := d3'.out; omega)
            go_quiet (fail)
            go_wp2_with fail
            go_roundw
            case rel => exact ⟨k + 1, x0, by omega, by simp, below_drewN hb _, ⟨hp1.out, by have := hx0.out; omega⟩, hy⟩
            case measure => simp [intOf]; omega
          have hn := hno.out (hgd.out.trans (decide_eq_false (by omega)))
          subst hn
          clear hyes hno hgd hp1
          have e0 : (x1 != 0) = true := by simpa using q0
          have e2 : (x1 != 2) = true := by simpa using q2
          have e3 : (x1 != 3) = true := by simpa using q3
          have f0 : Hid _ := e0
          have f2 : Hid _ := e2
          have f3 : Hid _ := e3
          clear e0 e2 e3 q0 q2 q3
          go_wp2_with fail
          have g1 : decide (x0 < 1) = false := decide_eq_false (by have := hx0.out; omega)
          have g2 : decide (4095 < x0) = false := decide_eq_false (by have := hx0.out; omega)
          have g3 : decide ((0 : Int) < (k : Int)) = true := by have := hk0'.out; rw [decide_eq_true_iff]; omega
          have g4 : decide (0 < k) = true := by have := hk0'.out; rw [decide_eq_true_iff]; omega
          have hsub : (k : Int) - 1 = (j : Int) := by have := hk0'.out; omega
          have g5 : decide (x0 ≤ p) = false := decide_eq_false (by have := d3'.out; omega)
          have e0 := f0.out
          have e2 := f2.out
          have e3 := f3.out
          go_quiet (fail)
          go_wp2_with fail
          go_ret
          exact ⟨rfl, below_drewN hb _⟩
    · have hn := hN.out (fun j hj => hall.out j hj (by omega))
      have hge : ¬ (k : Int) < l.length := by omega
      clear hY hN hall h2 hp hp0
      subst hn
      go_wp2_with fail
      go_ret
      exact ⟨rfl, hb⟩
end Go.Proofs.Ytbnpplihiolpiaa
