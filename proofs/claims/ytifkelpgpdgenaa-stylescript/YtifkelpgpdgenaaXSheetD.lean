/-
  What is proved here: styles that have parents; what rises of style answers.
-/
import Derived.Test.YtifkelpgpdgenaaXSheetC
import Derived.WalkMore
namespace Go.Proofs.Ytifkelpgpdgenaa
open Go.RowKit Go.Shelf

variable {X : Nat → Prop}

/-- The way up from a style, itself first. -/
inductive Up (S : Sh) : Str → Str → Prop
  | here (s : Str) : Up S s s
  | step {s p u : Str} {L : List (Int × Int)} : S s = some (p, L) → p ≠ e0 → Up S p u → Up S s u

/-- Sheets as they are made. -/
structure WF (S : Sh) : Prop where
  name : ∀ s x, S s = some x → nameB s = true
  fits : ∀ s p L, S s = some (p, L) → refuseL L = 0
  up : ∀ s p L, S s = some (p, L) → p ≠ e0 → ∃ x, S p = some x
  rank : ∃ r : Str → Nat, ∀ s p L, S s = some (p, L) → p ≠ e0 → r p < r s

theorem nameB_pos {s : Str} (h : nameB s = true) : 0 < s.size ∧ s.size ≤ 16 := by
  unfold nameB at h
  simp only [Bool.and_eq_true, decide_eq_true_eq] at h
  exact h.1
theorem e0_size : e0.size = 0 := rfl
theorem nameB_ne {s : Str} (h : nameB s = true) : s ≠ e0 := fun e => by
  have := (nameB_pos h).1
  rw [e, e0_size] at this; omega
theorem WF.none0 {S : Sh} (h : WF S) : S e0 = none := by
  cases hx : S e0 with
  | none => rfl
  | some x => exact absurd rfl (nameB_ne (h.name _ _ hx))
theorem WF.psize {S : Sh} (h : WF S) {s p : Str} {L : List (Int × Int)} (hs : S s = some (p, L)) : p.size ≤ 16 := by
  by_cases hp : p = e0
  · rw [hp, e0_size]; omega
  · obtain ⟨x, hx⟩ := h.up _ _ _ hs hp
    exact (nameB_pos (h.name _ _ hx)).2

open Classical in
noncomputable def ansUp (S : Sh) (u to : Str) : Bool := decide (u ≠ e0 ∧ Up S u to)
theorem ansUp_empty (S : Sh) (to : Str) : ansUp S e0 to = false := by simp [ansUp]
theorem ansUp_here (S : Sh) {u : Str} (h : u ≠ e0) : ansUp S u u = true := by simp [ansUp, h, Up.here]
theorem ansUp_none (S : Sh) {u to : Str} (h : u ≠ to) (hs : S u = none) : ansUp S u to = false := by
  simp only [ansUp, decide_eq_false_iff_not]
  rintro ⟨_, hu⟩
  cases hu with
  | here => exact h rfl
  | step h1 => rw [hs] at h1; cases h1
theorem ansUp_step (S : Sh) {u to p : Str} {L : List (Int × Int)} (h0 : u ≠ e0) (h : u ≠ to) (hs : S u = some (p, L)) : ansUp S u to = ansUp S p to := by
  simp only [ansUp]
  congr 1
  apply propext
  constructor
  · rintro ⟨_, hu⟩
    cases hu with
    | here => exact absurd rfl h
    | step h1 h2 h3 => rw [hs] at h1; cases h1; exact ⟨h2, h3⟩
  · rintro ⟨h1, h2⟩
    exact ⟨h0, .step hs h1 h2⟩

open Classical in
noncomputable def rk (S : Sh) (r : Str → Nat) (u : Str) : Nat := if u = e0 then 0 else if S u = none then 1 else r u + 2
theorem rk_e0 (S : Sh) (r : Str → Nat) : rk S r e0 = 0 := by simp [rk]
theorem rk_none (S : Sh) (r : Str → Nat) {u : Str} (h : u ≠ e0) (hs : S u = none) : rk S r u = 1 := by simp [rk, h, hs]
theorem rk_some (S : Sh) (r : Str → Nat) {u : Str} {x : Sty} (h : u ≠ e0) (hs : S u = some x) : rk S r u = r u + 2 := by simp [rk, h, hs]

theorem strEq_no {a b : Str} (h : a ≠ b) : (ByteArray.toList a == ByteArray.toList b) = false := by
  rw [toList_data, toList_data]
  cases hb : (a.data.toList == b.data.toList) with
  | false => rfl
  | true =>
    have h1 : a.data.toList = b.data.toList := by simpa using hb
    exact absurd (by obtain ⟨⟨x⟩⟩ := a; obtain ⟨⟨y⟩⟩ := b; simp at h1; rw [h1]) h
theorem size_pos {s : Str} (h : s ≠ e0) : 0 < s.size := by
  rcases Nat.eq_zero_or_pos s.size with h0 | h0
  · exact absurd (size_zero h0) h
  · exact h0

theorem field82 (p : Str) (a : Option Addr) (l c : Nat) (w : World) : (Instr.field 82 (.agg #[.string p, .slice a l c]) 0).run Try.prog w = .ok (.string p) w := by kernel_rfl

noncomputable def strOf : Value → Str
  | .string s => s
  | _ => e0

set_option maxRecDepth 100000 in
set_option maxHeartbeats 4000000 in
theorem rises_any (t b n : Nat) (S : Sh) (hS : WF S) (s0 to : Str) (h0 : s0.size ≤ maxLen) (w : World) (h : SheetAt X w t b n S) :
    Calls Try.prog 42 #[.pointer (some ⟨t, 0, none⟩), .string s0, .string to] w fun e w' => e = .returned (.bool (ansUp S s0 to)) ∧ w' = w := by
  obtain ⟨D, h1, _, h3⟩ := h.own
  obtain ⟨c0, c1⟩ := h.cells
  obtain ⟨r, hr⟩ := hS.rank
  have hlook : Hid (∀ u : Str, u.size ≤ maxLen → _) := fun u hu => look_false h1 hu (h3 u)
  clear h1 h3 h
  have hfd := field82
  go_enter Try.func42, Try.ntmps42
  go_wp2_with fail
  go_step3
  go_wp2_with fail
  go_step3
  go_wp2_with fail
  go_loopw [1] (fun v wr => ∃ u : Str, v = .string u ∧ u.size ≤ maxLen ∧ wr = w ∧ Hid (ansUp S u to = ansUp S s0 to)) (fun v _ => rk S r (strOf v))
  case atStart => exact ⟨s0, rfl, h0, rfl, rfl⟩
  case round =>
    obtain ⟨u, rfl, hu, rfl, ha⟩ := hrel
    by_cases hue : u = e0
    · have h5 : ansUp S s0 to = false := by rw [← ha.out, hue, ansUp_empty]
      have hE : (ByteArray.toList u).isEmpty = true := by rw [hue, toList_data]; rfl
      clear ha hue
      go_wp2_with fail
      (try rw [Exit.noGoto_ret])
      go_ret
      exact ⟨by first | rfl | (rw [h5]; rfl), rfl⟩
    · have hE := isEmpty_no (size_pos hue)
      by_cases hut : u = to
      · have h5 : ansUp S s0 to = true := by rw [← ha.out, hut]; exact ansUp_here S (hut ▸ hue)
        subst hut
        clear ha
        go_wp2_with fail
        (try rw [Exit.noGoto_ret])
        go_ret
        exact ⟨by first | rfl | (rw [h5]; rfl), rfl⟩
      · have hq := strEq_no hut
        obtain ⟨a, cap, hl, _⟩ := hlook.out u hu
        cases hs : S u with
        | none =>
          have h6 : Hid (ansUp S e0 to = ansUp S s0 to) := by
            rw [← ha.out, ansUp_none S hut hs, ansUp_empty]; exact rfl
          have hm : Hid (rk S r e0 < rk S r u) := by rw [rk_e0, rk_none S r hue hs]; exact Nat.zero_lt_one
          rw [hs] at hl
          unfold styV at hl
          simp only [Option.map_none, Option.getD_none] at hl
          clear ha
          go_wp2_with fail
          go_roundw
          case rel => exact ⟨e0, rfl, by rw [e0_size]; omega, by first | rfl | trivial, h6⟩
          case measure => exact hm.out
        | some x =>
          obtain ⟨p, L⟩ := x
          have h6 : Hid (ansUp S p to = ansUp S s0 to) := by
            rw [← ha.out, ansUp_step S hue hut hs]; exact rfl
          have hp := hS.psize hs
          have hm : Hid (rk S r p < rk S r u) := by
            rw [rk_some S r hue hs]
            by_cases hp : p = e0
            · rw [hp, rk_e0]; exact Nat.succ_pos _
            · obtain ⟨y, hy⟩ := hS.up _ _ _ hs hp
              rw [rk_some S r hp hy]
              have := hr _ _ _ hs hp
              show _ < _
              omega
          rw [hs] at hl
          unfold styV at hl
          simp only [Option.map_some, Option.getD_some] at hl
          clear ha
          go_wp2_with fail
          go_roundw
          case rel => exact ⟨p, rfl, by unfold maxLen; omega, by first | rfl | trivial, h6⟩
          case measure => exact hm.out
end Go.Proofs.Ytifkelpgpdgenaa
