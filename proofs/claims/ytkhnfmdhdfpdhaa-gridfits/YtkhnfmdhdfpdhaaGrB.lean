/-
  What is proved here: which tables may be; a cell's paragraph; the width of a run.
-/
import Derived.Test.YtkhnfmdhdfpdhaaGrA
import Derived.Test.YtkhnfmdhdfpdhaaMassW
import Derived.Laws.ResultCell
namespace Go.Proofs.Ytkhnfmdhdfpdhaa
open Go.RowKit Go.Shelf

set_option maxRecDepth 100000 in
set_option maxHeartbeats 2000000 in
theorem mayCell_any (t : ByteArray) (hsz : t.size ≤ 9223372036854775807) (w : World) : Calls Try.prog 34 #[.string t] w fun e w' => e = .returned (.bool (cellB t)) ∧ w' = w := by
  by_cases h200 : t.size ≤ 200
  · have hN : Hid (∀ k, k < t.size → ¬ (32 ≤ bt t k ∧ bt t k ≤ 126) → cellB t = false) := fun k hk h => cell_no hk h
    have hY : Hid ((∀ k, k < t.size → 32 ≤ bt t k ∧ bt t k ≤ 126) → cellB t = true) := fun h => decide_eq_true ⟨h200, h⟩
    have h200' : ¬ (200 : Int) < t.size := by omega
    generalize cellB t = r at *
    go_enter Try.func34, Try.ntmps34
    go_wp2_with fail
    go_loopw [9] (fun i wr => ∃ k : Nat, k ≤ t.size ∧ i = .int .i64 k ∧ wr = w ∧ Hid (∀ j, j < k → 32 ≤ bt t j ∧ bt t j ≤ 126)) (fun i _ => t.size - (intOf i).toNat)
    case atStart => exact ⟨0, by omega, rfl, rfl, fun j hj => by omega⟩
    case round =>
      obtain ⟨k, hk, rfl, rfl, hall⟩ := hrel
      by_cases hlt : k < t.size
      · have hb0 : Hid (bt t k = ((t[k]'hlt).toNat : Int)) := bt_eq hlt
        have hlt' : (k : Int) < t.size := by omega
        by_cases d0 : ((t[k]'hlt).toNat : Int) < 32
        · have hr : false = r := ((hN.out k hlt (by rw [hb0.out]; omega)).symm)
          subst hr
          clear hN hY hb0 hall
          go_wp2_with fail
          go_ret
          exact ⟨rfl, rfl⟩
        · by_cases d1 : 126 < ((t[k]'hlt).toNat : Int)
          · have hr : false = r := ((hN.out k hlt (by rw [hb0.out]; omega)).symm)
            subst hr
            clear hN hY hb0 hall
            go_wp2_with fail
            go_ret
            exact ⟨rfl, rfl⟩
          · have hn : Hid (∀ j, j < k + 1 → 32 ≤ bt t j ∧ bt t j ≤ 126) := fun j hj => by
              by_cases e : j = k
              · subst e; rw [hb0.out]; omega
              · exact hall.out j (by omega)
            clear hb0 hall
            go_wp2_with fail
            go_roundw
            case rel => exact ⟨k + 1, by omega, by simp, by first | rfl | trivial, hn⟩
            case measure => simp [intOf]; omega
      · obtain rfl : k = t.size := by omega
        have hr : true = r := (hY.out hall.out).symm
        subst hr
        clear hN hY hall
        go_wp2_with fail
        go_ret
        exact ⟨rfl, rfl⟩
  · have e : cellB t = false := decide_eq_false (fun h => h200 h.1)
    have h200' : (200 : Int) < t.size := by omega
    rw [e]
    clear e
    go_enter Try.func34, Try.ntmps34
    go_wp2_with fail
    go_ret
    exact ⟨rfl, rfl⟩

theorem info24 : (Try.prog.info? 24).map (·.size) = some 2 := by kernel_rfl
set_option maxRecDepth 100000 in
set_option maxHeartbeats 2000000 in
theorem gcheck_any (c : Int) (v : Value) (l : List ByteArray) (hl : l.length ≤ 9223372036854775807) (hsz : ∀ t ∈ l, t.size ≤ 9223372036854775807) (w : World) (hS : StrsAt w v l) :
    Calls Try.prog 14 #[.agg #[.int .i64 c, v]] w fun e w' => e = .returned (.int .i64 (chkG c l)) ∧ Below w.heap.size w w' := by
  have hB := (Below.refl w.heap.size w).alloc (Nat.le_refl _) (.cells #[.int .i64 c, v] 24)
  have hS1 := hS.below hB (Nat.le_refl _)
  have hb0 : (w.alloc (.cells #[.int .i64 c, v] 24)).heap[w.heap.size]? = some (.cells #[.int .i64 c, v] 24) := World.alloc_heap_new w _
  obtain ⟨a, cap, rfl, h2⟩ := hS1.ex
  clear hS hS1
  have c0 : (w.alloc (.cells #[.int .i64 c, .slice a l.length cap] 24)).cell? ⟨w.heap.size, 0, none⟩ = some (.int .i64 c) := by rw [Lib.cell_of_heap hb0]; rfl
  have c1 : (w.alloc (.cells #[.int .i64 c, .slice a l.length cap] 24)).cell? ⟨w.heap.size, 1, none⟩ = some (.slice a l.length cap) := by rw [Lib.cell_of_heap hb0]; rfl
  have hN : Hid (¬ ((1 ≤ c ∧ c ≤ 8) ∧ (1 ≤ l.length ∧ l.length ≤ 64) ∧ (l.length : Int) % c = 0) → chkG c l = 2) := fun h => if_neg (fun hh => h ⟨hh.1, hh.2.1, hh.2.2.1⟩)
  have hN2 : Hid (∀ k (hk : k < l.length), cellB l[k] = false → chkG c l = 2) := fun k hk h => if_neg (fun hh => by have := List.all_eq_true.1 hh.2.2.2 _ (List.getElem_mem hk); rw [h] at this; cases this)
  have hY : Hid (((1 ≤ c ∧ c ≤ 8) ∧ (1 ≤ l.length ∧ l.length ≤ 64) ∧ (l.length : Int) % c = 0) → (∀ k (hk : k < l.length), cellB l[k] = true) → chkG c l = 0) := fun h ha => if_pos ⟨h.1, h.2.1, h.2.2, List.all_eq_true.2 fun b hb => by
    obtain ⟨i, hi, rfl⟩ := List.getElem_of_mem hb
    exact ha i hi⟩
  generalize chkG c l = r at *
  generalize hw1 : w.alloc (.cells #[.int .i64 c, .slice a l.length cap] 24) = w1 at *
  by_cases h1 : c < 1
  · have hr : 2 = r := (hN.out (fun h => by omega)).symm
    subst hr
    clear hN hN2 hY h2 hb0
    go_enter Try.func14, Try.ntmps14
    go_wp2_with fail
    go_ret
    exact ⟨rfl, hB⟩
  by_cases h8 : 8 < c
  · have hr : 2 = r := (hN.out (fun h => by omega)).symm
    subst hr
    clear hN hN2 hY h2 hb0
    go_enter Try.func14, Try.ntmps14
    go_wp2_with fail
    go_ret
    exact ⟨rfl, hB⟩
  by_cases hz : l.length = 0
  · have hr : 2 = r := (hN.out (fun h => by omega)).symm
    subst hr
    have hz' : ((l.length : Int) == 0) = true := by simp [hz]
    have hcz : ¬ c = 0 := by omega
    clear hN hN2 hY h2 hb0 hz
    go_enter Try.func14, Try.ntmps14
    go_wp2_with fail
    go_ret
    exact ⟨rfl, hB⟩
  have hz' : ((l.length : Int) == 0) = false := beq_eq_false_iff_ne.2 (by omega)
  have hcz : ¬ c = 0 := by omega
  by_cases h64 : 64 < l.length
  · have hr : 2 = r := (hN.out (fun h => by omega)).symm
    subst hr
    have h64' : (64 : Int) < l.length := by omega
    clear hN hN2 hY h2 hb0 hz
    go_enter Try.func14, Try.ntmps14
    go_wp2_with fail
    go_ret
    exact ⟨rfl, hB⟩
  have h64' : ¬ (64 : Int) < l.length := by omega
  by_cases hm : (l.length : Int) % c = 0
  · have hY2 : Hid ((∀ k (hk : k < l.length), cellB l[k] = true) → r = 0) := fun ha => hY.out ⟨by omega, by omega, hm⟩ ha
    have hm' : ((l.length : Int) % c != 0) = false := by simp [hm]
    have hcell := fun k (hk : k < l.length) => mayCell_any l[k] (hsz _ (List.getElem_mem hk))
    have hcell' : Hid (∀ k (hk : k < l.length) (w : World), Calls Try.prog 34 #[.string l[k]] w fun e w' => e = .returned (.bool (cellB l[k])) ∧ w' = w) := hcell
    clear hN hY hb0 hz hcell hm
    go_enter Try.func14, Try.ntmps14
    go_wp2_with fail
    go_loopw [33] (fun i wr => ∃ k : Nat, k ≤ l.length ∧ i = .int .i64 k ∧ wr = w1 ∧ Hid (∀ j (hj : j < l.length), j < k → cellB l[j] = true)) (fun i _ => l.length - (intOf i).toNat)
    case atStart => exact ⟨0, by omega, rfl, rfl, fun j _ hj => by omega⟩
    case round =>
      obtain ⟨k, hk, rfl, rfl, hall⟩ := hrel
      by_cases hlt : k < l.length
      · rcases h2 with h2 | ⟨b, o, rfl, hbl, hc⟩
        · rw [h2] at hlt; simp at hlt
        have hlt' : (k : Int) < l.length := by omega
        have d0 : wr.cell? ⟨b, o + k, none⟩ = some (.string l[k]) := hc k hlt
        have hq := hcell'.out k hlt
        have hN3 : Hid (cellB l[k] = false → r = 2) := hN2.out k hlt
        have hall2 : Hid (cellB l[k] = true → ∀ j (hj : j < l.length), j < k + 1 → cellB l[j] = true) := fun h j hj hjk => by
          by_cases e : j = k
          · subst e; exact h
          · exact hall.out j hj (by omega)
        clear hc hN2 hall hsz
        generalize cellB l[k] = z at *
        generalize l[k] = x at *
        rcases z with _ | _
        · have hr : 2 = r := (hN3.out rfl).symm
          subst hr
          clear hN3 hall2
          go_wp2_with (go_at_call 34; (with_reducible refine (hq _).mono ?_); rintro e w' ⟨rfl, hw⟩; subst w')
          go_ret
          exact ⟨rfl, hB⟩
        · have hall3 : Hid (∀ j (hj : j < l.length), j < k + 1 → cellB l[j] = true) := hall2.out rfl
          clear hN3 hall2
          go_wp2_with (go_at_call 34; (with_reducible refine (hq _).mono ?_); rintro e w' ⟨rfl, hw⟩; subst w')
          go_roundw
          case rel => exact ⟨k + 1, by omega, by simp, by first | rfl | trivial, hall3⟩
          case measure => simp [intOf]; omega
      · obtain rfl : k = l.length := by omega
        have hr : 0 = r := (hY2.out (fun j hj => hall.out j hj hj)).symm
        subst hr
        clear h2 hall hY2 hN2
        go_wp2_with fail
        go_ret
        exact ⟨rfl, hB⟩
  · have hr : 2 = r := (hN.out (fun h => hm h.2.2)).symm
    subst hr
    have hm' : ((l.length : Int) % c != 0) = true := by simpa using hm
    clear hN hN2 hY h2 hb0 hz hm
    go_enter Try.func14, Try.ntmps14
    go_wp2_with fail
    go_ret
    exact ⟨rfl, hB⟩

end Go.Proofs.Ytkhnfmdhdfpdhaa
