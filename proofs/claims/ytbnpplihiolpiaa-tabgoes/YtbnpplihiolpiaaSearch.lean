/-
  What is proved here: where slices.BinarySearchFunc finds a place, in stops that rise.
-/
import Derived.Test.YtbnpplihiolpiaaTabA
namespace Go.Proofs.Ytbnpplihiolpiaa
open Go.RowKit Go.Shelf

theorem cmp_lt {x y : Int} (h : x < y) : cmpI x y = -1 := if_pos h
theorem cmp_ge {x y : Int} (h : y ≤ x) : 0 ≤ cmpI x y := by
  unfold cmpI
  rw [if_neg (by omega)]
  split <;> omega

def SrE (l : List St) (t : Int) (w : World) (e : Ending) (w' : World) : Prop := ∃ (k : Nat) (f : Bool), e = .returned (.tuple #[.int .i64 k, .bool f]) ∧ k ≤ l.length ∧ Hid (∀ j (hj : j < l.length), j < k → l[j].a < t) ∧ Hid (∀ j (hj : j < l.length), k ≤ j → t ≤ l[j].a) ∧ Below w.heap.size w w'

set_option maxRecDepth 100000 in
set_option maxHeartbeats 2000000 in
theorem search_any (v : Value) (l : List St) (t : Int) (hl : l.length ≤ 16) (hr : ∀ j (hj : j < l.length) i (hi : i < j), (l[i]'(by omega)).a < l[j].a) (w : World) (hS : RecAt 2 stL w v l) :
    Calls Try.prog 21 #[v, .int .i64 t, .func (.func 22) #[] #[]] w fun e w' => SrE l t w e w' := by
  obtain ⟨a, cap, rfl, h2⟩ := hS.ex
  clear hS
  have hr' : Hid (∀ j (hj : j < l.length) i (hi : i < j), (l[i]'(by omega)).a < l[j].a) := hr
  clear hr
  go_enter Try.func21, Try.ntmps21
  go_wp2_with fail
  go_loopw [9, 10] (fun i j wr => ∃ (p q : Nat), p ≤ q ∧ q ≤ l.length ∧ i = .int .i64 p ∧ j = .int .i64 q ∧ Below w.heap.size w wr ∧ Hid (∀ j (hj : j < l.length), j < p → l[j].a < t) ∧ Hid (∀ j (hj : j < l.length), q ≤ j → t ≤ l[j].a)) (fun i j _ => (intOf j).toNat - (intOf i).toNat)
  case atStart => exact ⟨0, l.length, by omega, by omega, rfl, rfl, Below.refl _ _, fun j _ hj => by omega, fun j _ hj => by omega⟩
  case round =>
    obtain ⟨p, q, hpq, hq, rfl, rfl, hb, hlo, hhi⟩ := hrel
    by_cases hlt : p < q
    · rcases h2 with h2 | ⟨b, o, rfl, hbl, hc⟩
      · rw [h2] at hq; simp at hq; omega
      have hlt' : (p : Int) < q := by omega
      obtain ⟨m, hm, hm1, hm2⟩ : ∃ m : Nat, ((p : Int) + q) / 2 = m ∧ p ≤ m ∧ m < q := ⟨(p + q) / 2, by omega, by omega, by omega⟩
      have hml : m < l.length := by omega
      have hml' : (m : Int) < l.length := by omega
      have c0 : wr.cell? ⟨b, o + m * 2, none⟩ = some (.int .i64 l[m].a) := (hb.cell hbl).trans (hc m hml 0 _ rfl)
      have c1 : wr.cell? ⟨b, o + m * 2 + 1, none⟩ = some (.int .i64 l[m].k) := (hb.cell hbl).trans (hc m hml 1 _ rfl)
      have hcl := close_any l[m] t
      unfold stV at hcl
      clear hc
      by_cases hx : l[m].a < t
      · have hlo' : Hid (∀ j (hj : j < l.length), j < m + 1 → l[j].a < t) := fun j hj hjm => by
          by_cases e : j = m
          · subst e; exact hx
          · exact Int.lt_trans (hr'.out m hml j (by omega)) hx
        rw [cmp_lt hx] at hcl
        clear hx hlo hr'
        generalize l[m].a = x0 at *
        generalize l[m].k = x1 at *
        go_wp2_with fail
        refine (hcl _).mono ?_
        rintro e w' ⟨rfl, hb2⟩
        have hB := hb.trans (hb2.mono hb.size)
        go_wp2_with fail
        go_roundw
        case rel => exact ⟨m + 1, q, by omega, by omega, by simp, rfl, hB, hlo', hhi⟩
        case measure => simp [intOf]; omega
      · have hhi' : Hid (∀ j (hj : j < l.length), m ≤ j → t ≤ l[j].a) := fun j hj hjm => by
          by_cases e : j = m
          · subst e; omega
          · have := hr'.out j hj m (by omega); omega
        obtain ⟨z, hz, hz0⟩ : ∃ z, cmpI l[m].a t = z ∧ 0 ≤ z := ⟨_, rfl, cmp_ge (by omega)⟩
        rw [hz] at hcl
        clear hx hhi hr' hz
        generalize l[m].a = x0 at *
        generalize l[m].k = x1 at *
        have hz1 : ¬ z < 0 := by omega
        go_wp2_with fail
        refine (hcl _).mono ?_
        rintro e w' ⟨rfl, hb2⟩
        have hB := hb.trans (hb2.mono hb.size)
        go_wp2_with fail
        go_roundw
        case rel => exact ⟨p, m, by omega, by omega, rfl, rfl, hB, hlo, hhi'⟩
        case measure => simp [intOf]; omega
    · have hge : ¬ (p : Int) < q := by omega
      have hpe : Hid (∀ j (hj : j < l.length), p ≤ j → t ≤ l[j].a) := fun j hj h => hhi.out j hj (by omega)
      by_cases hpl : p < l.length
      · rcases h2 with h2 | ⟨b, o, rfl, hbl, hc⟩
        · rw [h2] at hpl; simp at hpl
        have hpl' : (p : Int) < l.length := by omega
        have c0 : wr.cell? ⟨b, o + p * 2, none⟩ = some (.int .i64 l[p].a) := (hb.cell hbl).trans (hc p hpl 0 _ rfl)
        have c1 : wr.cell? ⟨b, o + p * 2 + 1, none⟩ = some (.int .i64 l[p].k) := (hb.cell hbl).trans (hc p hpl 1 _ rfl)
        have hcl := close_any l[p] t
        unfold stV at hcl
        clear hc hr'
        generalize cmpI l[p].a t = z at *
        generalize l[p].a = x0 at *
        generalize l[p].k = x1 at *
        go_wp2_with fail
        refine (hcl _).mono ?_
        rintro e w' ⟨rfl, hb2⟩
        have hB := hb.trans (hb2.mono hb.size)
        go_wp2_with fail
        go_ret2
        exact ⟨p, _, rfl, by omega, hlo, hpe, hB⟩
      · have hpl' : ¬ (p : Int) < l.length := by omega
        clear h2 hr'
        go_wp2_with fail
        go_ret2
        exact ⟨p, _, rfl, by omega, hlo, hpe, hb⟩
end Go.Proofs.Ytbnpplihiolpiaa
