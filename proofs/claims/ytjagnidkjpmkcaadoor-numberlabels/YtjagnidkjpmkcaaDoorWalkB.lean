/-
  What is proved here: what may answers of a list of paragraphs, and the document's own Check.
-/
import Derived.Test.YtjagnidkjpmkcaaDoorWalkA
namespace Go.Proofs.YtjagnidkjpmkcaaDoor
open Go.RowKit Go.Shelf

theorem okE_iff (x : En) : okE x = true ↔ (0 ≤ x.1 ∧ x.1 ≤ 8) ∧ 0 ≤ x.2 ∧ x.2 < 4 := by simp [okE, isLi, isLv]
theorem okE_not {x : En} (h : okE x = false) : x.1 < 0 ∨ (0 ≤ x.1 ∧ 8 < x.1) ∨ (0 ≤ x.1 ∧ x.1 ≤ 8 ∧ x.2 < 0) ∨ (0 ≤ x.1 ∧ x.1 ≤ 8 ∧ 0 ≤ x.2 ∧ 3 < x.2) := by
  by_cases h' : (0 ≤ x.1 ∧ x.1 ≤ 8) ∧ 0 ≤ x.2 ∧ x.2 < 4
  · rw [(okE_iff x).2 h'] at h; cases h
  · omega

set_option maxRecDepth 100000 in
set_option maxHeartbeats 4000000 in
theorem may_any (v : Value) (ls : List En) (w : World) (hS : EnAt w v ls) :
    Calls Tryd.prog 20 #[v] w fun e w' => e = .returned (.bool (ls.all okE)) ∧ w' = w := by
  obtain ⟨a, cap, rfl, h2⟩ := hS.ex
  have hlen := hS.few
  go_enter Tryd.func20, Tryd.ntmps20
  go_wp2_with fail
  go_loopw [3] (fun i wr => ∃ k : Nat, k ≤ ls.length ∧ i = .int .i64 k ∧ wr = w ∧ Hid ((ls.take k).all okE = true)) (fun i _ => ls.length - (intOf i).toNat)
  case atStart => exact ⟨0, by omega, rfl, rfl, rfl⟩
  case round =>
    obtain ⟨k, hk, rfl, rfl, hall⟩ := hrel
    by_cases hlt : k < ls.length
    · rcases h2 with h2 | ⟨b, o, rfl, hbl, hc⟩
      · rw [h2] at hlt; simp at hlt
      · obtain ⟨d0, d1⟩ := hc k hlt
        clear hc
        have hno : Hid (okE ls[k] = false → ls.all okE = false) := all_no hlt
        have hyes : Hid (okE ls[k] = true → (ls.take (k + 1)).all okE = true) := all_take hlt hall
        cases h1 : okE ls[k]
        · have h5 : Hid _ := hno.out h1
          have h6 := okE_not h1
          clear hno hyes hall h1
          generalize ls[k].1 = x at d0 h6
          generalize ls[k].2 = y at d1 h6
          rcases h6 with h6 | ⟨h6, h7⟩ | ⟨h6, h7, h8⟩ | ⟨h6, h7, h8, h9⟩
          all_goals
            go_wp2_with fail
            go_ret
            exact ⟨by rw [h5.out]; rfl, rfl⟩
        · have h5 : Hid _ := hyes.out h1
          have h6 := (okE_iff _).1 h1
          clear hno hyes hall h1
          generalize ls[k].1 = x at d0 h6
          generalize ls[k].2 = y at d1 h6
          obtain ⟨⟨h6, h7⟩, h8, h9⟩ := h6
          go_wp2_with fail
          all_goals
            go_roundw
            case rel => exact ⟨k + 1, by omega, by simp, trivial, h5⟩
            case measure => simp [intOf]; omega
    · obtain rfl : k = ls.length := by omega
      have h6 : Hid (ls.all okE = true) := by show _ = _; rw [← List.take_length (l := ls), hall.out]
      clear hall
      go_wp2_with fail
      go_ret
      exact ⟨by rw [h6.out]; rfl, rfl⟩

set_option maxRecDepth 100000 in
set_option maxHeartbeats 4000000 in
theorem check_any (v : Value) (ls : List En) (w : World) (hS : EnAt w v ls) :
    Calls Tryd.prog 14 #[v] w fun e w' => e = .returned (.int .i64 (refE ls)) ∧ w' = w := by
  obtain ⟨a, cap, rfl, h2⟩ := hS.ex
  have hlen := hS.few
  by_cases hl : 3999 < ls.length
  · have he : refE ls = 3 := by unfold refE; rw [if_pos hl]
    rw [he]
    go_enter Tryd.func14, Tryd.ntmps14
    go_wp2_with fail
    go_ret
    exact ⟨rfl, rfl⟩
  have he : Hid (refE ls = if ls.all okE then 0 else 2) := by show _ = _; unfold refE; rw [if_neg hl]
  go_enter Tryd.func14, Tryd.ntmps14
  go_wp2_with fail
  go_loopw [3] (fun i wr => ∃ k : Nat, k ≤ ls.length ∧ i = .int .i64 k ∧ wr = w ∧ Hid ((ls.take k).all okE = true)) (fun i _ => ls.length - (intOf i).toNat)
  case atStart => exact ⟨0, by omega, rfl, rfl, rfl⟩
  case round =>
    obtain ⟨k, hk, rfl, rfl, hall⟩ := hrel
    by_cases hlt : k < ls.length
    · rcases h2 with h2 | ⟨b, o, rfl, hbl, hc⟩
      · rw [h2] at hlt; simp at hlt
      · obtain ⟨d0, d1⟩ := hc k hlt
        clear hc
        have hno : Hid (okE ls[k] = false → refE ls = 2) := fun h => by rw [he.out, all_no hlt h]; rfl
        have hyes : Hid (okE ls[k] = true → (ls.take (k + 1)).all okE = true) := all_take hlt hall
        clear he
        cases h1 : okE ls[k]
        · have h5 : Hid _ := hno.out h1
          have h6 := okE_not h1
          clear hno hyes hall h1
          generalize ls[k].1 = x at d0 h6
          generalize ls[k].2 = y at d1 h6
          rcases h6 with h6 | ⟨h6, h7⟩ | ⟨h6, h7, h8⟩ | ⟨h6, h7, h8, h9⟩
          all_goals
            go_wp2_with fail
            go_ret
            exact ⟨by rw [h5.out]; rfl, rfl⟩
        · have h5 : Hid _ := hyes.out h1
          have h6 := (okE_iff _).1 h1
          clear hno hyes hall h1
          generalize ls[k].1 = x at d0 h6
          generalize ls[k].2 = y at d1 h6
          obtain ⟨⟨h6, h7⟩, h8, h9⟩ := h6
          go_wp2_with fail
          all_goals
            go_roundw
            case rel => exact ⟨k + 1, by omega, by simp, trivial, h5⟩
            case measure => simp [intOf]; omega
    · obtain rfl : k = ls.length := by omega
      have h6 : Hid (refE ls = 0) := by show _ = _; rw [he.out, ← List.take_length (l := ls), hall.out]; rfl
      clear hall he
      go_wp2_with fail
      go_ret
      exact ⟨by rw [h6.out]; rfl, rfl⟩

end Go.Proofs.YtjagnidkjpmkcaaDoor
