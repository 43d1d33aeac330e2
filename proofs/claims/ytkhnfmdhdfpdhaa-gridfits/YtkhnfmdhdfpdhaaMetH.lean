/-
  What is proved here: whether all numbers keep their bounds; the bounds of a paragraph's properties.
-/
import Derived.Test.YtkhnfmdhdfpdhaaMetE
import Derived.Test.YtkhnfmdhdfpdhaaRec
namespace Go.Proofs.Ytkhnfmdhdfpdhaa
open Go.RowKit Go.Shelf

/-- A number, and between which ones it must lie. -/
abbrev Bd := Int × Int × Int
def bdL (r : Bd) : List Value := [.int .i64 r.1, .int .i64 r.2.1, .int .i64 r.2.2]
theorem bdL_len (r : Bd) : (bdL r).length = 3 := rfl
def bdB (r : Bd) : Bool := decide (r.2.1 ≤ r.1 ∧ r.1 ≤ r.2.2)
def keepB (l : List Bd) : Bool := l.all bdB

set_option maxRecDepth 100000 in
set_option maxHeartbeats 1000000 in
theorem keep_any (v : Value) (l : List Bd) (hl : l.length ≤ 100) (w : World) (hS : RecAt 3 bdL w v l) :
    Calls Try.prog 87 #[v] w fun e w' => e = .returned (.bool (keepB l)) ∧ Below w.heap.size w w' := by
  obtain ⟨a, cap, rfl, h2⟩ := hS.ex
  clear hS
  have hY : Hid (∀ k (hk : k < l.length), bdB l[k] = false → keepB l = false) := fun k hk e => List.all_eq_false.2 ⟨l[k], List.getElem_mem hk, by simp [e]⟩
  have hN : Hid ((∀ k (hk : k < l.length), bdB l[k] = true) → keepB l = true) := fun h => List.all_eq_true.2 fun b hb => by
    obtain ⟨k, hk, rfl⟩ := List.getElem_of_mem hb
    exact h k hk
  generalize keepB l = r at hY hN ⊢
  go_enter Try.func87, Try.ntmps87
  go_wp2
  go_loopw [7] (fun i wr => ∃ k : Nat, k ≤ l.length ∧ i = .int .i64 k ∧ Below w.heap.size w wr ∧ Hid (∀ j (hj : j < l.length), j < k → bdB l[j] = true)) (fun i _ => l.length - (intOf i).toNat)
  case atStart => exact ⟨0, by omega, rfl, Below.refl _ _, fun j _ hj => by omega⟩
  case round =>
    obtain ⟨k, hk, rfl, hb, hall⟩ := hrel
    by_cases hlt : k < l.length
    · rcases h2 with h2 | ⟨b, o, rfl, hbl, hc⟩
      · rw [h2] at hlt; simp at hlt
      · have c0 : wr.cell? ⟨b, o + k * 3, none⟩ = some (.int .i64 l[k].1) := (hb.cell hbl).trans (hc k hlt 0 _ rfl)
        have c1 : wr.cell? ⟨b, o + k * 3 + 1, none⟩ = some (.int .i64 l[k].2.1) := (hb.cell hbl).trans (hc k hlt 1 _ rfl)
        have c2 : wr.cell? ⟨b, o + k * 3 + 2, none⟩ = some (.int .i64 l[k].2.2) := (hb.cell hbl).trans (hc k hlt 2 _ rfl)
        have hlt' : (k : Int) < l.length := by omega
        have hbb : Hid (bdB l[k] = decide (l[k].2.1 ≤ l[k].1 ∧ l[k].1 ≤ l[k].2.2)) := rfl
        have hyes : Hid (bdB l[k] = true → ∀ j (hj : j < l.length), j < k + 1 → bdB l[j] = true) := fun hv j hj hjk => by
            by_cases h : j < k
            · exact hall.out j hj h
            · obtain rfl : j = k := by omega
              exact hv
        have hno : Hid (bdB l[k] = false → r = false) := hY.out k hlt
        clear hY hN hall hc
        generalize l[k].1 = x0 at *
        generalize l[k].2.1 = x1 at *
        generalize l[k].2.2 = x2 at *
        by_cases d1 : x0 < x1
        · have hn := hno.out (hbb.out.trans (decide_eq_false (by omega)))
          subst hn
          clear hyes hno hbb
          go_wp2_with fail
          go_ret
          exact ⟨rfl, hb.alloc hb.size _⟩
        · by_cases d2 : x2 < x0
          · have hn := hno.out (hbb.out.trans (decide_eq_false (by omega)))
            subst hn
            clear hyes hno hbb
            go_wp2_with fail
            go_ret
            exact ⟨rfl, hb.alloc hb.size _⟩
          · have hy : Hid (∀ j (hj : j < l.length), j < k + 1 → bdB l[j] = true) := hyes.out (hbb.out.trans (decide_eq_true (by omega)))
            clear hyes hno hbb
            go_wp2_with fail
            go_roundw
            case rel => exact ⟨k + 1, by omega, by simp, hb.alloc hb.size _, hy⟩
            case measure => simp [intOf]; omega
    · have hn := hN.out (fun j hj => hall.out j hj (by omega))
      have hge : ¬ (k : Int) < l.length := by omega
      clear hY hN hall h2
      subst hn
      go_wp2_with fail
      go_ret
      exact ⟨rfl, hb⟩

/-- A paragraph's properties. -/
structure Pr where
  p0 : Int
  p1 : Int
  p2 : Int
  p3 : Int
  p4 : Int
  p5 : Int
  p6 : Int
  p7 : Int
  p8 : Int
  p9 : Int
  p10 : Int
  p11 : Int
  p12 : Int
  p13 : Int
  p14 : Int
  p15 : Int
  p16 : Int
def prL (p : Pr) : List Value := [.int .i64 p.p0, .int .i64 p.p1, .int .i64 p.p2, .int .i64 p.p3, .int .i64 p.p4, .int .i64 p.p5, .int .i64 p.p6, .int .i64 p.p7, .int .i64 p.p8, .int .i64 p.p9, .int .i64 p.p10, .int .i64 p.p11, .int .i64 p.p12, .int .i64 p.p13, .int .i64 p.p14, .int .i64 p.p15, .int .i64 p.p16]
def prB (p : Pr) : List Bd := [(p.p0, 1, 64), (p.p1, 1, 255), (p.p2, 0, 3), (p.p3, 0, 255), (p.p4, 0, 255), (p.p5, 0, 255), (p.p6, 0, 255), (p.p7, 0, 255), (p.p8, 0, 1), (p.p9, 0, 1), (p.p10, 1, 4), (p.p11, 1, 4), (p.p12, 0, 1), (p.p13, 0, 1), (p.p14, 0, 4), (p.p15, 0, 8), (p.p16, 0, 3)]

end Go.Proofs.Ytkhnfmdhdfpdhaa
