/-
  What is proved here: which two bytes stand nearer, as Kern of metric tells it.
-/
import Derived.Test.YtkhnfmdhdfpdhaaMetE
namespace Go.Proofs.Ytkhnfmdhdfpdhaa
open Go.RowKit Go.Shelf

def pairs2 : List (Int × Int) := [(65, 84), (65, 86), (65, 87), (65, 89), (84, 65), (86, 65), (87, 65), (89, 65), (76, 84), (76, 86), (76, 89), (80, 65), (84, 111), (84, 97), (84, 101), (86, 111), (86, 97), (89, 111), (89, 97)]
def pairs1 : List (Int × Int) := [(114, 46), (114, 44), (102, 46), (102, 44), (118, 46), (121, 46), (65, 118), (65, 121), (111, 118), (118, 111)]
def txt2 : ByteArray := { data := #[65, 84, 65, 86, 65, 87, 65, 89, 84, 65, 86, 65, 87, 65, 89, 65, 76, 84, 76, 86, 76, 89, 80, 65, 84, 111, 84, 97, 84, 101, 86, 111, 86, 97, 89, 111, 89, 97] }
def txt1 : ByteArray := { data := #[114, 46, 114, 44, 102, 46, 102, 44, 118, 46, 121, 46, 65, 118, 65, 121, 111, 118, 118, 111] }
/-- The pairs of a text, two bytes at a time. -/
def prs (p : ByteArray) (n : Nat) : List (Int × Int) := (List.range n).map (fun i => (bt p (2 * i), bt p (2 * i + 1)))
theorem prs2 : prs txt2 19 = pairs2 := by decide +kernel
theorem prs1 : prs txt1 10 = pairs1 := by decide +kernel
def hasB (l : List (Int × Int)) (a b : Int) : Bool := decide ((a, b) ∈ l)
/-- The kerning of two bytes of a size. -/
def kernI (a b s : Int) : Int := if hasB pairs2 a b = true then -((2 * s) / 16) else if hasB pairs1 a b = true then -(s / 16) else 0
theorem kernI_rng (a b : Int) {s : Int} (h0 : 0 ≤ s) (h1 : s ≤ 64) : -8 ≤ kernI a b s ∧ kernI a b s ≤ 0 := by
  unfold kernI
  repeat' split
  all_goals omega

set_option maxRecDepth 100000 in
set_option maxHeartbeats 1000000 in
theorem hasPair_any (p : ByteArray) (n : Nat) (hp : p.size = 2 * n) (hn : n ≤ 100) (a b : Int) (w : World) :
    Calls Try.prog 104 #[.string p, .int .u8 a, .int .u8 b] w fun e w' => e = .returned (.bool (hasB (prs p n) a b)) ∧ w' = w := by
  have hY : Hid (∀ k, k < n → bt p (2 * k) = a → bt p (2 * k + 1) = b → hasB (prs p n) a b = true) := fun k hk e1 e2 => by
    refine decide_eq_true (List.mem_map.2 ⟨k, List.mem_range.2 hk, ?_⟩)
    rw [e1, e2]
  have hN : Hid ((∀ k, k < n → ¬ (bt p (2 * k) = a ∧ bt p (2 * k + 1) = b)) → hasB (prs p n) a b = false) := fun h => by
    refine decide_eq_false (fun hm => ?_)
    obtain ⟨k, hk, e⟩ := List.mem_map.1 hm
    exact h k (List.mem_range.1 hk) ⟨congrArg Prod.fst e, congrArg Prod.snd e⟩
  generalize hasB (prs p n) a b = r at hY hN ⊢
  have hp1 : p.size ≤ 2 * n := by omega
  have hp2 : 2 * n ≤ p.size := by omega
  clear hp
  go_enter Try.func104, Try.ntmps104
  go_wp2
  go_loopw [7] (fun i wr => ∃ k : Nat, k ≤ n ∧ i = .int .i64 (2 * k : Nat) ∧ wr = w ∧ Hid (∀ j, j < k → ¬ (bt p (2 * j) = a ∧ bt p (2 * j + 1) = b))) (fun i _ => p.size - (intOf i).toNat)
  case atStart => exact ⟨0, by omega, rfl, rfl, fun j hj => by omega⟩
  case round =>
    obtain ⟨k, hk, rfl, rfl, hall⟩ := hrel
    by_cases hlt : k < n
    · have hl0 : 2 * k < p.size := by omega
      have hl1 : 2 * k + 1 < p.size := by omega
      have hb0 : Hid (bt p (2 * k) = ((p[2 * k]'hl0).toNat : Int)) := bt_eq hl0
      have hb1 : Hid (bt p (2 * k + 1) = ((p[2 * k + 1]'hl1).toNat : Int)) := bt_eq hl1
      go_wp2_with fail
      · rename_i h0 _ h1
        have hn := hY.out k hlt (hb0.out.trans h0) (hb1.out.trans (by simpa using h1))
        subst hn
        go_ret
        exact ⟨rfl, rfl⟩
      · rename_i _ _ h1
        have hyes : Hid (∀ j, j < k + 1 → ¬ (bt p (2 * j) = a ∧ bt p (2 * j + 1) = b)) := fun j hj => by
          by_cases h : j < k
          · exact hall.out j h
          · obtain rfl : j = k := by omega
            rintro ⟨_, e⟩
            rw [hb1.out] at e
            simp [e] at h1
        clear hY hN hall hb0 hb1 h1
        refine ⟨⟨k + 1, by omega, by simp; omega, trivial, hyes⟩, ?_⟩
        simp [intOf]; omega
      · rename_i h0
        have hyes : Hid (∀ j, j < k + 1 → ¬ (bt p (2 * j) = a ∧ bt p (2 * j + 1) = b)) := fun j hj => by
          by_cases h : j < k
          · exact hall.out j h
          · obtain rfl : j = k := by omega
            rintro ⟨e, _⟩
            rw [hb0.out] at e
            exact h0 e
        clear hY hN hall hb0 hb1 h0
        refine ⟨⟨k + 1, by omega, by simp; omega, trivial, hyes⟩, ?_⟩
        simp [intOf]; omega
    · have hn := hN.out (fun j hj => hall.out j (by omega))
      have hge : ¬ (2 * (k : Int)) < p.size := by omega
      clear hY hN hall
      subst hn
      go_wp2_with fail
      go_ret
      exact ⟨rfl, rfl⟩

set_option maxRecDepth 100000 in
set_option maxHeartbeats 1000000 in
theorem kern_any (a b s : Int) (h0 : 0 ≤ s) (h1 : s ≤ 64) (w : World) : Calls Try.prog 95 #[.int .u8 a, .int .u8 b, .int .i64 s] w fun e w' => e = .returned (.int .i64 (kernI a b s)) ∧ w' = w := by
  have c2 := hasPair_any txt2 19 rfl (by decide) a b w
  have c1 := hasPair_any txt1 10 rfl (by decide) a b w
  rw [prs2] at c2
  rw [prs1] at c1
  have q2 : (2 * s).tdiv 16 = 2 * s / 16 := Int.tdiv_eq_ediv_of_nonneg (by omega)
  have q1 : s.tdiv 16 = s / 16 := Int.tdiv_eq_ediv_of_nonneg (by omega)
  by_cases e2 : hasB pairs2 a b = true
  · have ek : kernI a b s = -((2 * s) / 16) := by unfold kernI; rw [if_pos e2]
    rw [ek]
    rw [e2] at c2
    clear ek e2 c1
    go_enter Try.func95, Try.ntmps95
    go_wp2_with fail
    refine c2.mono ?_
    rintro e w' ⟨rfl, hww⟩
    subst w'
    go_wp2_with fail
    go_ret
    exact ⟨rfl, rfl⟩
  · have e2' : hasB pairs2 a b = false := by simpa using e2
    rw [e2'] at c2
    by_cases e1 : hasB pairs1 a b = true
    · have ek : kernI a b s = -(s / 16) := by unfold kernI; rw [if_neg e2, if_pos e1]
      rw [ek]
      rw [e1] at c1
      clear ek e2 e2' e1
      go_enter Try.func95, Try.ntmps95
      go_wp2_with fail
      refine c2.mono ?_
      rintro e w' ⟨rfl, hww⟩
      subst w'
      go_wp2_with fail
      refine c1.mono ?_
      rintro e w' ⟨rfl, hww⟩
      subst w'
      go_wp2_with fail
      go_ret
      exact ⟨rfl, rfl⟩
    · have ek : kernI a b s = 0 := by unfold kernI; rw [if_neg e2, if_neg e1]
      have e1' : hasB pairs1 a b = false := by simpa using e1
      rw [ek]
      rw [e1'] at c1
      clear ek e2 e2' e1 e1'
      go_enter Try.func95, Try.ntmps95
      go_wp2_with fail
      refine c2.mono ?_
      rintro e w' ⟨rfl, hww⟩
      subst w'
      go_wp2_with fail
      refine c1.mono ?_
      rintro e w' ⟨rfl, hww⟩
      subst w'
      go_wp2_with fail
      go_ret
      exact ⟨rfl, rfl⟩

end Go.Proofs.Ytkhnfmdhdfpdhaa
