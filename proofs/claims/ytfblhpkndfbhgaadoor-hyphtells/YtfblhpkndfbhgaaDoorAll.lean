/-
  What is proved here: what all answers of patterns and of exceptions.
-/
import Derived.Test.YtfblhpkndfbhgaaDoorExcept
namespace Go.Proofs.YtfblhpkndfbhgaaDoor
open Go.RowKit Go.Shelf

/-- A list of texts in memory. -/
abbrev TxAt (W : World) (v : Value) (ss : List ByteArray) : Prop := RecAt 1 (fun s : ByteArray => [Value.string s]) W v ss
theorem cell_lt {w : World} {b o : Nat} {v : Value} (h : w.cell? ⟨b, o, none⟩ = some v) : b < w.heap.size := by
  apply Classical.byContradiction
  intro hc
  have : w.heap[b]? = none := Array.getElem?_eq_none (by omega)
  simp [World.cell?, this] at h
theorem tx_cell {W : World} {a : Option Addr} {cap n : Nat} {ss : List ByteArray} (h : TxAt W (.slice a n cap) ss) {k : Nat} (hk : k < ss.length) : ∃ b o, a = some ⟨b, o, none⟩ ∧ W.cell? ⟨b, o + k, none⟩ = some (.string (ss[k]'hk)) := by
  obtain ⟨a', cap', h1, h2⟩ := h.ex
  cases h1
  rcases h2 with h2 | ⟨b, o, rfl, hb, hc⟩
  · subst h2; simp at hk
  · have := hc k hk 0 (.string (ss[k]'hk)) rfl
    exact ⟨b, o, rfl, by simpa using this⟩

set_option maxRecDepth 100000 in
set_option maxHeartbeats 1000000 in
theorem allPat_any (v : Value) (ss : List ByteArray) (hs : ss.length ≤ 1000000) (w : World) (h : TxAt w v ss) : Calls Tryd.prog 27 #[v, .func (.func 28) #[] #[]] w fun e w' => e = .returned (.bool (ss.all (fun s => patB s.data.toList))) ∧ Below w.heap.size w w' := by
  obtain ⟨a, cap, rfl, hex⟩ := h.ex
  have hno : Hid (∀ (k : Nat) (h : k < ss.length), patB (ss[k]'h).data.toList = false → ss.all (fun s => patB s.data.toList) = false) := fun k h hf => by
    show _ = _
    rw [List.all_eq_false]
    exact ⟨_, List.getElem_mem h, by simp [hf]⟩
  have hyes : Hid ((∀ (k : Nat) (h : k < ss.length), patB (ss[k]'h).data.toList = true) → ss.all (fun s => patB s.data.toList) = true) := fun h => by
    show _ = _
    rw [List.all_eq_true]
    intro s hs
    obtain ⟨k, hk, rfl⟩ := List.getElem_of_mem hs
    exact h k hk
  generalize ss.all (fun s => patB s.data.toList) = r at *
  go_enter Tryd.func27, Tryd.ntmps27
  go_wp2_with fail
  go_loopw [9] (fun i wr => ∃ k : Nat, k ≤ ss.length ∧ i = .int .i64 k ∧ Below w.heap.size w wr ∧ Hid (∀ (j : Nat) (h : j < ss.length), j < k → patB (ss[j]'h).data.toList = true)) (fun i _ => ss.length - (intOf i).toNat)
  case atStart => exact ⟨0, by omega, rfl, Below.refl _ _, fun j _ hj => by omega⟩
  case round =>
    obtain ⟨k, hk, rfl, hb, ha⟩ := hrel
    by_cases hlt : k < ss.length
    · obtain ⟨b0, o0, rfl, c0⟩ := tx_cell h hlt
      have c1 : wr.cell? ⟨b0, o0 + k, none⟩ = some (.string (ss[k]'hlt)) := by
        rw [← c0]; exact World.cell?_of_block (hb.block b0 (cell_lt c0))
      have hI := isPattern_any (ss[k]'hlt) wr
      have hkl : (k : Int) < ss.length := by omega
      cases hc : patB (ss[k]'hlt).data.toList with
      | true =>
        rw [hc] at hI
        have ha2 : Hid (∀ (j : Nat) (h : j < ss.length), j < k + 1 → patB (ss[j]'h).data.toList = true) := fun j hj hjk => by
          by_cases hh : j < k
          · exact ha.out j hj hh
          · obtain rfl : j = k := by omega
            exact hc
        generalize ss[k]'hlt = s at *
        clear hno hyes ha hc hex h
        go_wp2_with (go_at_call 28; refine hI.mono ?_; rintro e w' ⟨rfl, hww⟩; subst w')
        go_roundw
        case rel => exact ⟨k + 1, by omega, by simp, hb, ha2⟩
        case measure => simp [intOf]; omega
      | false =>
        rw [hc] at hI
        have hr := hno.out k hlt hc
        subst hr
        generalize ss[k]'hlt = s at *
        clear hno hyes ha hc hex h
        go_wp2_with (go_at_call 28; refine hI.mono ?_; rintro e w' ⟨rfl, hww⟩; subst w')
        go_ret
        exact ⟨rfl, hb⟩
    · have hr := hyes.out (fun j hj => ha.out j hj (by omega))
      subst hr
      have hkl : ¬ (k : Int) < ss.length := by omega
      clear hno hyes ha
      go_wp2_with fail
      go_ret
      exact ⟨rfl, hb⟩

set_option maxRecDepth 100000 in
set_option maxHeartbeats 1000000 in
theorem allExc_any (v : Value) (ss : List ByteArray) (hs : ss.length ≤ 1000000) (hl : ∀ s ∈ ss, s.size ≤ 1000000) (w : World) (h : TxAt w v ss) : Calls Tryd.prog 27 #[v, .func (.func 29) #[] #[]] w fun e w' => e = .returned (.bool (ss.all (fun s => excB s.data.toList))) ∧ Below w.heap.size w w' := by
  obtain ⟨a, cap, rfl, hex⟩ := h.ex
  have hno : Hid (∀ (k : Nat) (h : k < ss.length), excB (ss[k]'h).data.toList = false → ss.all (fun s => excB s.data.toList) = false) := fun k h hf => by
    show _ = _
    rw [List.all_eq_false]
    exact ⟨_, List.getElem_mem h, by simp [hf]⟩
  have hyes : Hid ((∀ (k : Nat) (h : k < ss.length), excB (ss[k]'h).data.toList = true) → ss.all (fun s => excB s.data.toList) = true) := fun h => by
    show _ = _
    rw [List.all_eq_true]
    intro s hs
    obtain ⟨k, hk, rfl⟩ := List.getElem_of_mem hs
    exact h k hk
  generalize ss.all (fun s => excB s.data.toList) = r at *
  go_enter Tryd.func27, Tryd.ntmps27
  go_wp2_with fail
  go_loopw [9] (fun i wr => ∃ k : Nat, k ≤ ss.length ∧ i = .int .i64 k ∧ Below w.heap.size w wr ∧ Hid (∀ (j : Nat) (h : j < ss.length), j < k → excB (ss[j]'h).data.toList = true)) (fun i _ => ss.length - (intOf i).toNat)
  case atStart => exact ⟨0, by omega, rfl, Below.refl _ _, fun j _ hj => by omega⟩
  case round =>
    obtain ⟨k, hk, rfl, hb, ha⟩ := hrel
    by_cases hlt : k < ss.length
    · obtain ⟨b0, o0, rfl, c0⟩ := tx_cell h hlt
      have c1 : wr.cell? ⟨b0, o0 + k, none⟩ = some (.string (ss[k]'hlt)) := by
        rw [← c0]; exact World.cell?_of_block (hb.block b0 (cell_lt c0))
      have hI := isException_any (ss[k]'hlt) (hl _ (List.getElem_mem hlt)) wr
      have hkl : (k : Int) < ss.length := by omega
      cases hc : excB (ss[k]'hlt).data.toList with
      | true =>
        rw [hc] at hI
        have ha2 : Hid (∀ (j : Nat) (h : j < ss.length), j < k + 1 → excB (ss[j]'h).data.toList = true) := fun j hj hjk => by
          by_cases hh : j < k
          · exact ha.out j hj hh
          · obtain rfl : j = k := by omega
            exact hc
        generalize ss[k]'hlt = s at *
        clear hno hyes ha hc hex h hl
        go_wp2_with (go_at_call 29; refine hI.mono ?_; rintro e w' ⟨rfl, hb2⟩)
        go_roundw
        case rel => exact ⟨k + 1, by omega, by simp, (hb.trans (hb2.mono hb.size)), ha2⟩
        case measure => simp [intOf]; omega
      | false =>
        rw [hc] at hI
        have hr := hno.out k hlt hc
        subst hr
        generalize ss[k]'hlt = s at *
        clear hno hyes ha hc hex h hl
        go_wp2_with (go_at_call 29; refine hI.mono ?_; rintro e w' ⟨rfl, hb2⟩)
        go_ret
        exact ⟨rfl, (hb.trans (hb2.mono hb.size))⟩
    · have hr := hyes.out (fun j hj => ha.out j hj (by omega))
      subst hr
      have hkl : ¬ (k : Int) < ss.length := by omega
      clear hno hyes ha
      go_wp2_with fail
      go_ret
      exact ⟨rfl, hb⟩

end Go.Proofs.YtfblhpkndfbhgaaDoor
