/-
  What is proved here: which stops may be, as Check tells it.
-/
import Derived.Test.YtbnpplihiolpiaaTabA
namespace Go.Proofs.Ytbnpplihiolpiaa
open Go.RowKit Go.Shelf

set_option maxRecDepth 100000 in
set_option maxHeartbeats 2000000 in
theorem check_any (v : Value) (l : List St) (hl : l.length ≤ 9223372036854775807) (w : World) (hS : RecAt 2 stL w v l) :
    Calls Try.prog 10 #[v] w fun e w' => e = .returned (.int .i64 (ckI l)) ∧ Below w.heap.size w w' := by
  obtain ⟨a, cap, rfl, h2⟩ := hS.ex
  clear hS
  by_cases h16 : 16 < l.length
  · rw [ok_long h16]
    have h16' : (16 : Int) < l.length := by omega
    clear h2
    go_enter Try.func10, Try.ntmps10
    go_wp2
    go_ret
    exact ⟨rfl, Below.refl _ _⟩
  have hY : Hid (∀ k (hk : k < l.length), goodB (pv l k) l[k] = false → ckI l = 2) := fun k hk e => ok_bad k hk e
  have hN : Hid ((∀ k (hk : k < l.length), goodB (pv l k) l[k] = true) → ckI l = 0) := fun h => ok_yes (by omega) h
  have hp0 : Hid ((0 : Int) = pv l 0) := rfl
  have h16' : ¬ (16 : Int) < l.length := by omega
  generalize ckI l = r at hY hN ⊢
  go_enter Try.func10, Try.ntmps10
  go_wp2_with fail
  go_loopw [3, 11] (fun q i wr => ∃ (k : Nat) (p : Int), k ≤ l.length ∧ i = .int .i64 k ∧ q = .int .i64 p ∧ Below w.heap.size w wr ∧ Hid (p = pv l k) ∧ Hid (∀ j (hj : j < l.length), j < k → goodB (pv l j) l[j] = true)) (fun _ i _ => l.length - (intOf i).toNat)
  case atStart => exact ⟨0, 0, by omega, rfl, rfl, Below.refl _ _, hp0, fun j _ hj => by omega⟩
  case round =>
    obtain ⟨k, p, hk, rfl, rfl, hb, hp, hall⟩ := hrel
    by_cases hlt : k < l.length
    · rcases h2 with h2 | ⟨b, o, rfl, hbl, hc⟩
      · rw [h2] at hlt; simp at hlt
      · have c0 : wr.cell? ⟨b, o + k * 2, none⟩ = some (.int .i64 l[k].a) := (hb.cell hbl).trans (hc k hlt 0 _ rfl)
        have c1 : wr.cell? ⟨b, o + k * 2 + 1, none⟩ = some (.int .i64 l[k].k) := (hb.cell hbl).trans (hc k hlt 1 _ rfl)
        have hlt' : (k : Int) < l.length := by omega
        have hyes : Hid (goodB p l[k] = true → ∀ j (hj : j < l.length), j < k + 1 → goodB (pv l j) l[j] = true) := fun hv j hj hjk => by
            by_cases h : j < k
            · exact hall.out j hj h
            · obtain rfl : j = k := by omega
              rw [← hp.out]; exact hv
        have hno : Hid (goodB p l[k] = false → r = 2) := fun h => hY.out k hlt (by rw [← hp.out]; exact h)
        have hgd : Hid (goodB p l[k] = decide (p < l[k].a ∧ l[k].a ≤ 4095 ∧ (l[k].k = 0 ∨ l[k].k = 2 ∨ l[k].k = 3))) := rfl
        have hp1 : Hid (l[k].a = pv l (k + 1)) := (pv_succ l k hlt).symm
        have hB1 := hb.alloc hb.size (Obj.cells #[.int .i64 l[k].a, .int .i64 l[k].k] 24)
        clear hY hN hall hc hp hp0
        generalize l[k].a = x0 at *
        generalize l[k].k = x1 at *
        by_cases d1 : x0 ≤ p
        · have hn := hno.out (hgd.out.trans (decide_eq_false (by omega)))
          subst hn
          clear hyes hno hgd hp1
          go_wp2_with fail
          go_ret
          exact ⟨rfl, hB1⟩
        · by_cases d2 : 4095 < x0
          · have hn := hno.out (hgd.out.trans (decide_eq_false (by omega)))
            subst hn
            clear hyes hno hgd hp1
            go_wp2_with fail
            go_ret
            exact ⟨rfl, hB1⟩
          · have hma := mayAlign_any x1
            rcases d3 : alB x1 with _ | _
            · have hn := hno.out (hgd.out.trans (decide_eq_false (by have := alB_false d3; omega)))
              subst hn
              rw [d3] at hma
              clear hyes hno hgd hp1 d3
              go_wp2_with fail
              refine (hma _).mono ?_
              rintro e w' ⟨rfl, hw⟩
              subst w'
              go_wp2_with fail
              go_ret
              exact ⟨rfl, hB1⟩
            · have hy : Hid (∀ j (hj : j < l.length), j < k + 1 → goodB (pv l j) l[j] = true) := hyes.out (hgd.out.trans (decide_eq_true (by have := alB_true d3; omega)))
              rw [d3] at hma
              clear hyes hno hgd d3
              go_wp2_with fail
              refine (hma _).mono ?_
              rintro e w' ⟨rfl, hw⟩
              subst w'
              go_wp2_with fail
              go_roundw
              case rel => exact ⟨k + 1, x0, by omega, by simp, rfl, hB1, hp1, hy⟩
              case measure => simp [intOf]; omega
    · have hn := hN.out (fun j hj => hall.out j hj (by omega))
      have hge : ¬ (k : Int) < l.length := by omega
      clear hY hN hall h2 hp hp0
      subst hn
      go_wp2_with fail
      go_ret
      exact ⟨rfl, hb⟩
end Go.Proofs.Ytbnpplihiolpiaa
